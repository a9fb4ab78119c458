/- The walk of StanzaFaults. Condition: texts and elements of the reach that the form has. -/
import Derived.Test.YtccpdfcmhggleaaGreatDoorSu
namespace Go.Proofs.YtccpdfcmhggleaaGreatDoor
open Go.RowKit Go.Lib Go.Shelf Tg St

theorem kerr_is (c : ByteArray) : kindOfErr c = eAuth ∨ kindOfErr c = eMod ∨ kindOfErr c = eWait ∨ kindOfErr c = eCan := by
  unfold kindOfErr
  split
  · rename_i p hp
    have hm := List.mem_of_find?_eq_some hp
    have : ∀ p ∈ conds, p.2 = eAuth ∨ p.2 = eMod ∨ p.2 = eWait ∨ p.2 = eCan := by
      intro p hp
      simp only [conds, List.mem_cons, List.not_mem_nil, or_false] at hp
      rcases hp with rfl | rfl | rfl | rfl | rfl | rfl | rfl | rfl | rfl | rfl | rfl | rfl | rfl | rfl | rfl | rfl | rfl | rfl <;> simp
    exact this p hm
  · exact .inr (.inr (.inr rfl))
theorem er_some {s : S} {c : ByteArray} {t : S} (h : er s c = some t) : t = { St.back s tErr with cd := c } ∧ okS t = true := by
  unfold er at h
  split at h
  · cases h
  · unfold chkd at h
    split at h
    · cases h; exact ⟨rfl, by assumption⟩
    · cases h
theorem ks_er (kd : Int) (f t : Ad) (id c : ByteArray) (hc : isCond c = true) : (wr ⟨kd, tErr, f, t, id, E0, E0, E0, [], c⟩).ks = [errEl c] := by
  show ((say kShow E0 ++ say kStat E0) ++ say kBody E0) ++ [] ++ errs c = [errEl c]
  rw [say_E0, say_E0, say_E0, show errs c = [errEl c] from if_neg (by rw [emp_ff (cond_ne hc)]; simp)]; rfl
theorem attr_kerr (c : ByteArray) : attrV (newA [aType, kindOfErr c]) aType = kindOfErr c := by
  have hne : kindOfErr c ≠ E0 := by rcases kerr_is c with h | h | h | h <;> (rw [h]; decide)
  rw [attrV_two, if_pos ⟨rfl, hne⟩]
set_option maxRecDepth 100000 in
set_option maxHeartbeats 16000000 in
theorem stanzaFaults_walk (ld : List El) (kd : Int) (ty fn fd fr tn td tr id sh st bd cd : ByteArray) (aL : Option Addr) (cL : Nat) (cond : ByteArray) (w : World) (hK : KsIn w.heap.size w aL ld) (hcs : cond.size ≤ 140737488351232) (h1 : ty.size ≤ 140737488351232) (h2 : fn.size ≤ 140737488351232) (h3 : fd.size ≤ 140737488351232) (h4 : fr.size ≤ 140737488351232) (h5 : tn.size ≤ 140737488351232) (h6 : td.size ≤ 140737488351232) (h7 : tr.size ≤ 140737488351232) (h8 : id.size ≤ 140737488351232) (h9 : sh.size ≤ 140737488351232) (h10_ : st.size ≤ 140737488351232) (h11 : bd.size ≤ 140737488351232) (h12 : cd.size ≤ 140737488351232) :
    Calls Tryz.prog 5 #[.agg #[.int .i64 kd, .string ty, .string fn, .string fd, .string fr, .string tn, .string td, .string tr, .string id, .string sh, .string st, .string bd, .slice aL ld.length cL, .string cd], .string cond] w fun r w' => r = .returned (.bool true) ∧ Below w.heap.size w w' := by
  have CLV := Lib.hid (fun W => live9_any W)
  have CSM := Lib.hid (fun (W : World) (hb : Below w.heap.size w W) => small_any ld w.heap.size kd ty fn fd fr tn td tr id sh st bd cd aL cL W (hK.below hb) hb.size h1 h2 h3 h4 h5 h6 h7 h8 h9 h10_ h11 h12)
  have HB0 : Hid (Below w.heap.size w (w.alloc (.cells #[.int .i64 kd, .string ty, .string fn, .string fd, .string fr, .string tn, .string td, .string tr, .string id, .string sh, .string st, .string bd, .slice aL ld.length cL, .string cd] 26))) := (Below.refl _ w).alloc (Nat.le_refl _) _
  have HX0 := Lib.hid (box_new w #[.int .i64 kd, .string ty, .string fn, .string fd, .string fr, .string tn, .string td, .string tr, .string id, .string sh, .string st, .string bd, .slice aL ld.length cL, .string cd] 26)
  clear hK h1 h2 h3 h4 h5 h6 h7 h8 h9 h10_ h11 h12
  go_enter Tryz.func5, Tryz.ntmps5
  go_upto_region 1 with fail
  generalize w.alloc (.cells #[.int .i64 kd, .string ty, .string fn, .string fd, .string fr, .string tn, .string td, .string tr, .string id, .string sh, .string st, .string bd, .slice aL ld.length cL, .string cd] 26) = w0 at HB0 HX0 ⊢
  obtain ⟨x0, x1, x2, x3, x4, x5, x6, x7, x8, x9, x10, x11, x12, x13⟩ := bx14 HX0.out
  go_wp2_with fail
  refine (CSM.out _ HB0.out).mono ?_
  rintro r w1 ⟨⟨b, rfl, hsm⟩, hb⟩
  have HB1 := Lib.hid (more HB0.out (Nat.le_refl _) hb)
  have HX1 := Lib.hid ((hb.block _ (heap_lt HX0.out)).trans HX0.out)
  clear hb HB0 HX0 CSM x0 x1 x2 x3 x4 x5 x6 x7 x8 x9 x10 x11 x12 x13
  cases b with
  | false =>
    clear hsm
    go_wp2_with fail
    refine (CLV.out _).mono ?_
    rintro r wl ⟨rfl, hb⟩
    have HBL := Lib.hid (more HB1.out (Nat.le_refl _) hb)
    clear hb
    go_wp2_with fail
    go_ret
    exact ⟨rfl, HBL.out⟩
  | true =>
  obtain ⟨hl10, hwt⟩ := hsm rfl
  by_cases hn : cond.size ≤ 12000
  case neg =>
    have hgt : (12000 : Int) < cond.size := by omega
    go_wp2_with fail
    refine (CLV.out _).mono ?_
    rintro r wl ⟨rfl, hb⟩
    have HBL := Lib.hid (more HB1.out (Nat.le_refl _) hb)
    clear hb
    go_wp2_with fail
    go_ret
    exact ⟨rfl, HBL.out⟩
  case pos =>
  have hngt : ¬ (12000 : Int) < cond.size := by omega
  have CER : Hid (∀ W, Calls Tryz.prog 14 #[.agg #[.int .i64 kd, .string ty, .string fn, .string fd, .string fr, .string tn, .string td, .string tr, .string id, .string sh, .string st, .string bd, .slice aL ld.length cL, .string cd], .string cond] W (AnsP (er ⟨kd, ty, ⟨fn, fd, fr⟩, ⟨tn, td, tr⟩, id, sh, st, bd, ld, cd⟩ cond) W)) := fun W =>
    errorS ⟨kd, ty, ⟨fn, fd, fr⟩, ⟨tn, td, tr⟩, id, sh, st, bd, ld, cd⟩ cond aL cL W (by omega) (by omega)
  obtain ⟨x0, x1, x2, x3, x4, x5, x6, x7, x8, x9, x10, x11, x12, x13⟩ := bx14 HX1.out
  cases her : er ⟨kd, ty, ⟨fn, fd, fr⟩, ⟨tn, td, tr⟩, id, sh, st, bd, ld, cd⟩ cond with
  | none =>
    have CE2 : Hid (∀ W, Calls Tryz.prog 14 #[.agg #[.int .i64 kd, .string ty, .string fn, .string fd, .string fr, .string tn, .string td, .string tr, .string id, .string sh, .string st, .string bd, .slice aL ld.length cL, .string cd], .string cond] W fun r w' => r = .returned (.tuple #[.agg #[.int .i64 0, .string ⟨#[]⟩, .string ⟨#[]⟩, .string ⟨#[]⟩, .string ⟨#[]⟩, .string ⟨#[]⟩, .string ⟨#[]⟩, .string ⟨#[]⟩, .string ⟨#[]⟩, .string ⟨#[]⟩, .string ⟨#[]⟩, .string ⟨#[]⟩, .slice none 0 0, .string ⟨#[]⟩], .bool false]) ∧ Below W.heap.size W w') := by
      intro W
      have h := CER.out W
      rw [her] at h
      exact h
    clear CER
    go_wp2_with fail
    refine (CE2.out _).mono ?_
    rintro r w2 ⟨rfl, hb⟩
    have HB2 := Lib.hid (more HB1.out (Nat.le_refl _) hb)
    clear hb CE2 HB1 HX1 x0 x1 x2 x3 x4 x5 x6 x7 x8 x9 x10 x11 x12 x13
    have HBA := Lib.hid (HB2.out.alloc HB2.out.size (.cells #[.int .i64 0, .string ⟨#[]⟩, .string ⟨#[]⟩, .string ⟨#[]⟩, .string ⟨#[]⟩, .string ⟨#[]⟩, .string ⟨#[]⟩, .string ⟨#[]⟩, .string ⟨#[]⟩, .string ⟨#[]⟩, .string ⟨#[]⟩, .string ⟨#[]⟩, .slice none 0 0, .string ⟨#[]⟩] 26))
    have HTA := Lib.hid (box_new w2 #[.int .i64 0, .string ⟨#[]⟩, .string ⟨#[]⟩, .string ⟨#[]⟩, .string ⟨#[]⟩, .string ⟨#[]⟩, .string ⟨#[]⟩, .string ⟨#[]⟩, .string ⟨#[]⟩, .string ⟨#[]⟩, .string ⟨#[]⟩, .string ⟨#[]⟩, .slice none 0 0, .string ⟨#[]⟩] 26)
    go_upto_region 4 with fail
    generalize w2.heap.size = T at HTA ⊢
    generalize w2.alloc (.cells #[.int .i64 0, .string ⟨#[]⟩, .string ⟨#[]⟩, .string ⟨#[]⟩, .string ⟨#[]⟩, .string ⟨#[]⟩, .string ⟨#[]⟩, .string ⟨#[]⟩, .string ⟨#[]⟩, .string ⟨#[]⟩, .string ⟨#[]⟩, .string ⟨#[]⟩, .slice none 0 0, .string ⟨#[]⟩] 26) = wa at HBA HTA ⊢
    obtain ⟨x0, x1, x2, x3, x4, x5, x6, x7, x8, x9, x10, x11, x12, x13⟩ := bx14 HTA.out
    have CSA : Hid (Calls Tryz.prog 13 #[.agg #[.int .i64 0, .string ⟨#[]⟩, .string ⟨#[]⟩, .string ⟨#[]⟩, .string ⟨#[]⟩, .string ⟨#[]⟩, .string ⟨#[]⟩, .string ⟨#[]⟩, .string ⟨#[]⟩, .string ⟨#[]⟩, .string ⟨#[]⟩, .string ⟨#[]⟩, .slice none 0 0, .string ⟨#[]⟩], .agg #[.int .i64 0, .string ⟨#[]⟩, .string ⟨#[]⟩, .string ⟨#[]⟩, .string ⟨#[]⟩, .string ⟨#[]⟩, .string ⟨#[]⟩, .string ⟨#[]⟩, .string ⟨#[]⟩, .string ⟨#[]⟩, .string ⟨#[]⟩, .string ⟨#[]⟩, .slice none 0 0, .string ⟨#[]⟩]] wa fun r w' => r = .returned (.bool true) ∧ Below wa.heap.size wa w') :=
      sameS S0 none none 0 0 0 wa (fun i h => absurd h (Nat.not_lt_zero _)) (fun i h => absurd h (Nat.not_lt_zero _)) (Nat.zero_le _) (by decide)
    go_wp2_with fail
    refine CSA.out.mono ?_
    rintro r wb ⟨rfl, hb⟩
    have HBB := Lib.hid (more HBA.out (Nat.le_refl _) hb)
    clear hb HBA HTA CSA x0 x1 x2 x3 x4 x5 x6 x7 x8 x9 x10 x11 x12 x13
    go_wp2_with fail
    refine (CLV.out _).mono ?_
    rintro r wl ⟨rfl, hb⟩
    have HBL := Lib.hid (more HBB.out (Nat.le_refl _) hb)
    clear hb
    go_wp2_with fail
    go_ret
    exact ⟨rfl, HBL.out⟩
  | some t =>
    obtain ⟨ht, hokt⟩ := er_some her
    have htt : t = ⟨kd, tErr, ⟨tn, td, tr⟩, ⟨fn, fd, fr⟩, id, E0, E0, E0, [], cond⟩ := ht
    subst htt
    have hcnd : isCond cond = true := by
      have h := (ok_parts hokt).2.2.2.1
      unfold condB at h
      rw [if_pos (eqb_self tErr)] at h
      exact h
    have hcn30 := cond_size hcnd
    have HWTT : Hid (wtS ⟨kd, tErr, ⟨tn, td, tr⟩, ⟨fn, fd, fr⟩, id, E0, E0, E0, [], cond⟩ ≤ 12100) := by
      have h := hwt
      unfold wtS at h
      simp only at h
      have e1 : tErr.size = 5 := by decide
      have e2 : E0.size = 0 := by decide
      have e3 : wts [] = 0 := rfl
      show wtS _ ≤ _
      unfold wtS
      simp only [e1, e2, e3]
      omega
    have CE2 : Hid (∀ W, Calls Tryz.prog 14 #[.agg #[.int .i64 kd, .string ty, .string fn, .string fd, .string fr, .string tn, .string td, .string tr, .string id, .string sh, .string st, .string bd, .slice aL ld.length cL, .string cd], .string cond] W fun r w' => (∃ aq cq, r = .returned (.tuple #[.agg #[.int .i64 kd, .string ⟨#[101, 114, 114, 111, 114]⟩, .string tn, .string td, .string tr, .string fn, .string fd, .string fr, .string id, .string ⟨#[]⟩, .string ⟨#[]⟩, .string ⟨#[]⟩, .slice aq 0 cq, .string cond], .bool true]) ∧ KsS (fun b => W.heap.size ≤ b) w' aq []) ∧ Below W.heap.size W w') := by
      intro W
      have h := CER.out W
      rw [her] at h
      exact h
    clear CER ht
    go_wp2_with fail
    refine (CE2.out _).mono ?_
    rintro r w2 ⟨⟨a2, c2, rfl, _⟩, hb⟩
    have HB2 := Lib.hid (more HB1.out (Nat.le_refl _) hb)
    clear hb CE2 HB1 HX1 x0 x1 x2 x3 x4 x5 x6 x7 x8 x9 x10 x11 x12 x13
    have HBA := Lib.hid (HB2.out.alloc HB2.out.size (.cells #[.int .i64 kd, .string ⟨#[101, 114, 114, 111, 114]⟩, .string tn, .string td, .string tr, .string fn, .string fd, .string fr, .string id, .string ⟨#[]⟩, .string ⟨#[]⟩, .string ⟨#[]⟩, .slice a2 0 c2, .string cond] 26))
    have HTA := Lib.hid (box_new w2 #[.int .i64 kd, .string ⟨#[101, 114, 114, 111, 114]⟩, .string tn, .string td, .string tr, .string fn, .string fd, .string fr, .string id, .string ⟨#[]⟩, .string ⟨#[]⟩, .string ⟨#[]⟩, .slice a2 0 c2, .string cond] 26)
    go_upto_region 4 with fail
    generalize w2.heap.size = T at HTA ⊢
    generalize w2.alloc (.cells #[.int .i64 kd, .string ⟨#[101, 114, 114, 111, 114]⟩, .string tn, .string td, .string tr, .string fn, .string fd, .string fr, .string id, .string ⟨#[]⟩, .string ⟨#[]⟩, .string ⟨#[]⟩, .slice a2 0 c2, .string cond] 26) = wa at HBA HTA ⊢
    obtain ⟨x0, x1, x2, x3, x4, x5, x6, x7, x8, x9, x10, x11, x12, x13⟩ := bx14 HTA.out
    have CWR : Hid (Calls Tryz.prog 12 #[.agg #[.int .i64 kd, .string ⟨#[101, 114, 114, 111, 114]⟩, .string tn, .string td, .string tr, .string fn, .string fd, .string fr, .string id, .string ⟨#[]⟩, .string ⟨#[]⟩, .string ⟨#[]⟩, .slice a2 0 c2, .string cond]] wa fun r w' => ∃ v, r = .returned v ∧ InS (fun b => wa.heap.size ≤ b) w' (wr ⟨kd, tErr, ⟨tn, td, tr⟩, ⟨fn, fd, fr⟩, id, E0, E0, E0, [], cond⟩) v ∧ Below wa.heap.size wa w') :=
      writeS ⟨kd, tErr, ⟨tn, td, tr⟩, ⟨fn, fd, fr⟩, id, E0, E0, E0, [], cond⟩ a2 c2 0 wa (fun i h => absurd h (Nat.not_lt_zero _)) (Nat.zero_le _) (ok_parts hokt).2.2.2.1 (by have := HWTT.out; omega)
    go_wp2_with fail
    refine CWR.out.mono ?_
    rintro r wb ⟨v, rfl, hiv, hb⟩
    have HBB := Lib.hid (more HBA.out (Nat.le_refl _) hb)
    have HTB := Lib.hid ((hb.block _ (heap_lt HTA.out)).trans HTA.out)
    have HIB := Lib.hid hiv.toIn
    have HKS := Lib.hid (ks_er kd ⟨tn, td, tr⟩ ⟨fn, fd, fr⟩ id cond hcnd)
    have hlen : (wr ⟨kd, tErr, ⟨tn, td, tr⟩, ⟨fn, fd, fr⟩, id, E0, E0, E0, [], cond⟩).ks.length = 1 := by rw [HKS.out]; rfl
    obtain ⟨aA, cA, aK, cK, hvv, _, _, _, _⟩ := hiv.toIn.out
    rw [hlen] at hvv
    have hvv2 : v = .agg #[.string ⟨#[106, 97, 98, 98, 101, 114, 58, 99, 111, 109, 112, 111, 110, 101, 110, 116, 58, 97, 99, 99, 101, 112, 116]⟩, .string (nameOf kd), .slice aA (attrsOf ⟨kd, tErr, ⟨tn, td, tr⟩, ⟨fn, fd, fr⟩, id, E0, E0, E0, [], cond⟩).length cA, .string ⟨#[]⟩, .slice aK 1 cK] := hvv
    clear hvv
    subst hvv2
    clear hb hiv HBA HTA CWR x0 x1 x2 x3 x4 x5 x6 x7 x8 x9 x10 x11 x12 x13
    have hb : Below wb.heap.size wb (wb.alloc (.cells #[.string ⟨#[106, 97, 98, 98, 101, 114, 58, 99, 111, 109, 112, 111, 110, 101, 110, 116, 58, 97, 99, 99, 101, 112, 116]⟩, .string (nameOf kd), .slice aA (attrsOf ⟨kd, tErr, ⟨tn, td, tr⟩, ⟨fn, fd, fr⟩, id, E0, E0, E0, [], cond⟩).length cA, .string ⟨#[]⟩, .slice aK 1 cK] 29)) := (Below.refl _ _).alloc (Nat.le_refl _) _
    have HBC := Lib.hid (more HBB.out (Nat.le_refl _) hb)
    have HTC := Lib.hid ((hb.block _ (heap_lt HTB.out)).trans HTB.out)
    have HIC : Hid (In wb.heap.size (wb.alloc (.cells #[.string ⟨#[106, 97, 98, 98, 101, 114, 58, 99, 111, 109, 112, 111, 110, 101, 110, 116, 58, 97, 99, 99, 101, 112, 116]⟩, .string (nameOf kd), .slice aA (attrsOf ⟨kd, tErr, ⟨tn, td, tr⟩, ⟨fn, fd, fr⟩, id, E0, E0, E0, [], cond⟩).length cA, .string ⟨#[]⟩, .slice aK 1 cK] 29)) (wr ⟨kd, tErr, ⟨tn, td, tr⟩, ⟨fn, fd, fr⟩, id, E0, E0, E0, [], cond⟩) (.agg #[.string ⟨#[106, 97, 98, 98, 101, 114, 58, 99, 111, 109, 112, 111, 110, 101, 110, 116, 58, 97, 99, 99, 101, 112, 116]⟩, .string (nameOf kd), .slice aA (attrsOf ⟨kd, tErr, ⟨tn, td, tr⟩, ⟨fn, fd, fr⟩, id, E0, E0, E0, [], cond⟩).length cA, .string ⟨#[]⟩, .slice aK 1 cK])) := by
      exact HIB.out.stay hb
    have HEC := Lib.hid (box_new wb #[.string ⟨#[106, 97, 98, 98, 101, 114, 58, 99, 111, 109, 112, 111, 110, 101, 110, 116, 58, 97, 99, 99, 101, 112, 116]⟩, .string (nameOf kd), .slice aA (attrsOf ⟨kd, tErr, ⟨tn, td, tr⟩, ⟨fn, fd, fr⟩, id, E0, E0, E0, [], cond⟩).length cA, .string ⟨#[]⟩, .slice aK 1 cK] 29)
    have HSC : Hid (wb.heap.size ≤ (wb.alloc (.cells #[.string ⟨#[106, 97, 98, 98, 101, 114, 58, 99, 111, 109, 112, 111, 110, 101, 110, 116, 58, 97, 99, 99, 101, 112, 116]⟩, .string (nameOf kd), .slice aA (attrsOf ⟨kd, tErr, ⟨tn, td, tr⟩, ⟨fn, fd, fr⟩, id, E0, E0, E0, [], cond⟩).length cA, .string ⟨#[]⟩, .slice aK 1 cK] 29)).heap.size) := hb.size
    clear hb HBB HTB HIB
    go_upto_region 7 with fail
    generalize wb.alloc (.cells #[.string ⟨#[106, 97, 98, 98, 101, 114, 58, 99, 111, 109, 112, 111, 110, 101, 110, 116, 58, 97, 99, 99, 101, 112, 116]⟩, .string (nameOf kd), .slice aA (attrsOf ⟨kd, tErr, ⟨tn, td, tr⟩, ⟨fn, fd, fr⟩, id, E0, E0, E0, [], cond⟩).length cA, .string ⟨#[]⟩, .slice aK 1 cK] 29) = wc at HBC HTC HIC HEC HSC ⊢
    generalize wb.heap.size = N7 at HIC HEC HSC ⊢
    obtain ⟨p1, q1, p2, q2, hv, _, _, _, hks⟩ := HIC.out.out
    simp only [Value.agg.injEq, Array.mk.injEq, List.cons.injEq, and_true, Value.slice.injEq] at hv
    obtain ⟨-, -, -, -, hp2, -, -⟩ := hv
    rw [← hp2, HKS.out] at hks
    obtain ⟨b1, o1, p3, q3, p4, q4, hab, hb1, hf5, hkin⟩ := hks 0 (by simp)
    subst hab
    subst hp2
    have hf5' : Five wc b1 (o1 + 0 * 5) (.string ⟨#[106, 97, 98, 98, 101, 114, 58, 99, 111, 109, 112, 111, 110, 101, 110, 116, 58, 97, 99, 99, 101, 112, 116]⟩) (.string ⟨#[101, 114, 114, 111, 114]⟩) (.slice p3 (newA [aType, kindOfErr cond]).length q3) (.string ⟨#[]⟩) (.slice p4 1 q4) := hf5
    have hkin' : In N7 wc (errEl cond) (.agg #[.string ⟨#[106, 97, 98, 98, 101, 114, 58, 99, 111, 109, 112, 111, 110, 101, 110, 116, 58, 97, 99, 99, 101, 112, 116]⟩, .string ⟨#[101, 114, 114, 111, 114]⟩, .slice p3 (newA [aType, kindOfErr cond]).length q3, .string ⟨#[]⟩, .slice p4 1 q4]) := hkin
    rw [Nat.zero_mul, Nat.add_zero] at hf5'
    obtain ⟨k0, k1, k2, k3, k4⟩ := hf5'
    obtain ⟨r1, s1, r2, s2, hv, _, _, hat, hks2⟩ := hkin'.out
    simp only [Value.agg.injEq, Array.mk.injEq, List.cons.injEq, and_true, Value.slice.injEq] at hv
    obtain ⟨-, -, ⟨hr1, -, -⟩, -, hr2, -, -⟩ := hv
    subst hr1
    subst hr2
    have hks3 : KsIn N7 wc p4 [.mk ER cond [] E0 []] := hks2
    obtain ⟨b2, o2, p5, q5, p6, q6, hab, hb2, hg5, _⟩ := hks3 0 (by simp)
    subst hab
    have hg5' : Five wc b2 (o2 + 0 * 5) (.string ⟨#[117, 114, 110, 58, 105, 101, 116, 102, 58, 112, 97, 114, 97, 109, 115, 58, 120, 109, 108, 58, 110, 115, 58, 120, 109, 112, 112, 45, 115, 116, 97, 110, 122, 97, 115]⟩) (.string cond) (.slice p5 0 q5) (.string ⟨#[]⟩) (.slice p6 0 q6) := hg5
    rw [Nat.zero_mul, Nat.add_zero] at hg5'
    obtain ⟨l0, l1, l2, l3, l4⟩ := hg5'
    have CAT : Hid (Calls Tryz.prog 17 #[.agg #[.string ⟨#[106, 97, 98, 98, 101, 114, 58, 99, 111, 109, 112, 111, 110, 101, 110, 116, 58, 97, 99, 99, 101, 112, 116]⟩, .string ⟨#[101, 114, 114, 111, 114]⟩, .slice p3 (newA [aType, kindOfErr cond]).length q3, .string ⟨#[]⟩, .slice (some ⟨b2, o2, none⟩) 1 q4], .string ⟨#[116, 121, 112, 101]⟩] wc fun r w' => r = .returned (.string (kindOfErr cond)) ∧ Below wc.heap.size wc w') := by
      have h := rAttr_any ⟨#[106, 97, 98, 98, 101, 114, 58, 99, 111, 109, 112, 111, 110, 101, 110, 116, 58, 97, 99, 99, 101, 112, 116]⟩ ⟨#[101, 114, 114, 111, 114]⟩ ⟨#[]⟩ aType (newA [aType, kindOfErr cond]) p3 (some ⟨b2, o2, none⟩) q3 1 q4 N7 wc hat HSC.out (by have := newA_len [aType, kindOfErr cond]; simp only [List.length_cons, List.length_nil] at this; unfold maxLen; omega)
      rw [attr_kerr] at h
      exact h
    clear hks hf5 hkin hks2 hks3 hg5 hat hkin' hb1 hb2 hlen hwt
    obtain ⟨y0, y1, y2, y3, y4⟩ := bx5 HEC.out
    generalize hkk : kindOfErr cond = kk at CAT
    obtain ⟨en, hen⟩ : ∃ en : ByteArray, en = ⟨#[101, 114, 114, 111, 114]⟩ := ⟨_, rfl⟩
    rw [← hen] at k1 CAT
    have men : en.toList = [101, 114, 114, 111, 114] := by rw [hen, ByteArray.toList_eq]
    have pen : (en.toList != [101, 114, 114, 111, 114]) = false := by rw [men]; decide
    have qen : (en.toList == [101, 114, 114, 111, 114]) = true := by rw [men]; decide
    clear men
    have HEN := Lib.hid hen
    clear hen
    have hc1 : (cond.toList != cond.toList) = false := by simp
    have hz1 : (0 : Int) < 1 := by decide
    go_wp2_with fail
    refine CAT.out.mono ?_
    rintro r wd ⟨rfl, hb⟩
    have HBD := Lib.hid (more HBC.out (Nat.le_refl _) hb)
    have HTD := Lib.hid ((hb.block _ (heap_lt HTC.out)).trans HTC.out)
    have HED := Lib.hid ((hb.block _ (heap_lt HEC.out)).trans HEC.out)
    have HID := Lib.hid (HIC.out.stay (hb.mono HSC.out))
    have HSD := Lib.hid (Nat.le_trans HSC.out hb.size)
    clear hb HBC HTC HIC HEC HSC CAT y0 y1 y2 y3 y4 k0 k1 k2 k3 k4 l0 l1 l2 l3 l4
    have CR2 : Hid (Calls Tryz.prog 11 #[.agg #[.string ⟨#[106, 97, 98, 98, 101, 114, 58, 99, 111, 109, 112, 111, 110, 101, 110, 116, 58, 97, 99, 99, 101, 112, 116]⟩, .string (nameOf kd), .slice aA (attrsOf ⟨kd, tErr, ⟨tn, td, tr⟩, ⟨fn, fd, fr⟩, id, E0, E0, E0, [], cond⟩).length cA, .string ⟨#[]⟩, .slice (some ⟨b1, o1, none⟩) 1 cK]] wd fun r w' => (∃ aq cq, r = .returned (.tuple #[.agg #[.int .i64 kd, .string ⟨#[101, 114, 114, 111, 114]⟩, .string tn, .string td, .string tr, .string fn, .string fd, .string fr, .string id, .string ⟨#[]⟩, .string ⟨#[]⟩, .string ⟨#[]⟩, .slice aq 0 cq, .string cond], .int .i64 0]) ∧ KsS (fun b => wd.heap.size ≤ b) w' aq []) ∧ Below wd.heap.size wd w') := by
      have h := read_any (wr ⟨kd, tErr, ⟨tn, td, tr⟩, ⟨fn, fd, fr⟩, id, E0, E0, E0, [], cond⟩) _ wd (HID.out.mono HSD.out) (by have h1 := wt_wr ⟨kd, tErr, ⟨tn, td, tr⟩, ⟨fn, fd, fr⟩, id, E0, E0, E0, [], cond⟩; have h2 := HWTT.out; omega)
      rw [rd_wr hokt] at h
      exact h
    obtain ⟨y0, y1, y2, y3, y4⟩ := bx5 HED.out
    go_wp2_with fail
    refine CR2.out.mono ?_
    rintro r we ⟨⟨a5, c5, rfl, _⟩, hb⟩
    have HBE := Lib.hid (more HBD.out (Nat.le_refl _) hb)
    have HTE := Lib.hid ((hb.block _ (heap_lt HTD.out)).trans HTD.out)
    clear hb HBD HTD HED HID HSD CR2 y0 y1 y2 y3 y4
    have hb : Below we.heap.size we (we.alloc (.cells #[.int .i64 kd, .string ⟨#[101, 114, 114, 111, 114]⟩, .string tn, .string td, .string tr, .string fn, .string fd, .string fr, .string id, .string ⟨#[]⟩, .string ⟨#[]⟩, .string ⟨#[]⟩, .slice a5 0 c5, .string cond] 26)) := (Below.refl _ _).alloc (Nat.le_refl _) _
    have HBF := Lib.hid (more HBE.out (Nat.le_refl _) hb)
    have HTF := Lib.hid ((hb.block _ (heap_lt HTE.out)).trans HTE.out)
    have HUF := Lib.hid (box_new we #[.int .i64 kd, .string ⟨#[101, 114, 114, 111, 114]⟩, .string tn, .string td, .string tr, .string fn, .string fd, .string fr, .string id, .string ⟨#[]⟩, .string ⟨#[]⟩, .string ⟨#[]⟩, .slice a5 0 c5, .string cond] 26)
    clear hb HBE HTE
    go_upto_region 11 with fail
    generalize we.heap.size = T9 at HUF ⊢
    generalize we.alloc (.cells #[.int .i64 kd, .string ⟨#[101, 114, 114, 111, 114]⟩, .string tn, .string td, .string tr, .string fn, .string fd, .string fr, .string id, .string ⟨#[]⟩, .string ⟨#[]⟩, .string ⟨#[]⟩, .slice a5 0 c5, .string cond] 26) = wf at HBF HTF HUF ⊢
    have CSA : Hid (Calls Tryz.prog 13 #[.agg #[.int .i64 kd, .string ⟨#[101, 114, 114, 111, 114]⟩, .string tn, .string td, .string tr, .string fn, .string fd, .string fr, .string id, .string ⟨#[]⟩, .string ⟨#[]⟩, .string ⟨#[]⟩, .slice a2 0 c2, .string cond], .agg #[.int .i64 kd, .string ⟨#[101, 114, 114, 111, 114]⟩, .string tn, .string td, .string tr, .string fn, .string fd, .string fr, .string id, .string ⟨#[]⟩, .string ⟨#[]⟩, .string ⟨#[]⟩, .slice a5 0 c5, .string cond]] wf fun r w' => r = .returned (.bool true) ∧ Below wf.heap.size wf w') :=
      sameS ⟨kd, tErr, ⟨tn, td, tr⟩, ⟨fn, fd, fr⟩, id, E0, E0, E0, [], cond⟩ a2 a5 c2 c5 0 wf (fun i h => absurd h (Nat.not_lt_zero _)) (fun i h => absurd h (Nat.not_lt_zero _)) (Nat.zero_le _) (by show (0 : Nat) ≤ 20000; decide)
    obtain ⟨x0, x1, x2, x3, x4, x5, x6, x7, x8, x9, x10, x11, x12, x13⟩ := bx14 HTF.out
    obtain ⟨y0, y1, y2, y3, y4, y5, y6, y7, y8, y9, y10, y11, y12, y13⟩ := bx14 HUF.out
    have hk4 := kerr_is cond
    rw [hkk] at hk4
    rcases hk4 with hk | hk | hk | hk
    · obtain rfl : kk = ⟨#[97, 117, 116, 104]⟩ := hk
      clear hkk
      go_wp2_with fail
      refine (num_any _ _).mono ?_
      rintro r we' ⟨rfl, rfl⟩
      go_wp2_with fail
      refine CSA.out.mono ?_
      rintro r wg ⟨rfl, hb⟩
      have HBG := Lib.hid (more HBF.out (Nat.le_refl _) hb)
      clear hb
      go_wp2_with fail
      refine (CLV.out _).mono ?_
      rintro r wl ⟨rfl, hb⟩
      have HBL := Lib.hid (more HBG.out (Nat.le_refl _) hb)
      clear hb
      go_wp2_with fail
      go_ret
      exact ⟨rfl, HBL.out⟩
    · obtain rfl : kk = ⟨#[109, 111, 100, 105, 102, 121]⟩ := hk
      clear hkk
      go_wp2_with fail
      refine (num_any _ _).mono ?_
      rintro r we' ⟨rfl, rfl⟩
      go_wp2_with fail
      refine CSA.out.mono ?_
      rintro r wg ⟨rfl, hb⟩
      have HBG := Lib.hid (more HBF.out (Nat.le_refl _) hb)
      clear hb
      go_wp2_with fail
      refine (CLV.out _).mono ?_
      rintro r wl ⟨rfl, hb⟩
      have HBL := Lib.hid (more HBG.out (Nat.le_refl _) hb)
      clear hb
      go_wp2_with fail
      go_ret
      exact ⟨rfl, HBL.out⟩
    · obtain rfl : kk = ⟨#[119, 97, 105, 116]⟩ := hk
      clear hkk
      go_wp2_with fail
      refine (num_any _ _).mono ?_
      rintro r we' ⟨rfl, rfl⟩
      go_wp2_with fail
      refine CSA.out.mono ?_
      rintro r wg ⟨rfl, hb⟩
      have HBG := Lib.hid (more HBF.out (Nat.le_refl _) hb)
      clear hb
      go_wp2_with fail
      refine (CLV.out _).mono ?_
      rintro r wl ⟨rfl, hb⟩
      have HBL := Lib.hid (more HBG.out (Nat.le_refl _) hb)
      clear hb
      go_wp2_with fail
      go_ret
      exact ⟨rfl, HBL.out⟩
    · obtain rfl : kk = ⟨#[99, 97, 110, 99, 101, 108]⟩ := hk
      clear hkk
      go_wp2_with fail
      refine (num_any _ _).mono ?_
      rintro r we' ⟨rfl, rfl⟩
      go_wp2_with fail
      refine CSA.out.mono ?_
      rintro r wg ⟨rfl, hb⟩
      have HBG := Lib.hid (more HBF.out (Nat.le_refl _) hb)
      clear hb
      go_wp2_with fail
      refine (CLV.out _).mono ?_
      rintro r wl ⟨rfl, hb⟩
      have HBL := Lib.hid (more HBG.out (Nat.le_refl _) hb)
      clear hb
      go_wp2_with fail
      go_ret
      exact ⟨rfl, HBL.out⟩
end Go.Proofs.YtccpdfcmhggleaaGreatDoor
