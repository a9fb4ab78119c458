/- The walk of the law SnacPuts. Conditions: the table of widths holds what the program's text lays; a text takes at most what a machine can hold. -/
import Derived.Test.YthbpkdcjfcbngaaDoorVj
namespace Go.Proofs.YthbpkdcjfcbngaaDoor
open Go.RowKit Go.Lib

/-- A call that answers v and leaves the old blocks, wherever it is made behind w. -/
abbrev Xc (w : World) (f : FuncId) (args : Array Value) (v : Value) : Prop := ∀ x : Ext w, Calls Tryd.prog f args x.to fun e w' => e = .returned v ∧ Below x.to.heap.size x.to w'
theorem xc_pure {w : World} {f : FuncId} {args : Array Value} {v : Value} (h : ∀ W, Calls Tryd.prog f args W (Pure v W)) : Xc w f args v := fun x => (h x.to).mono fun _ _ ⟨he, hw⟩ => ⟨he, by rw [hw]; exact Below.refl _ _⟩
set_option maxRecDepth 100000 in
set_option maxHeartbeats 8000000 in
theorem puts_big (f s g r : Int) (b c : ByteArray) (n k : Int) (w : World) (hb : b.size ≤ 140737488351232) (hc : c.size ≤ 140737488351232) (hG : Gd w) (hl : 20000 < b.size + c.size) : Calls Tryd.prog 3 #[.agg #[.int .i64 f, .int .i64 s, .int .i64 g, .int .i64 r, .string b], .string c, .int .i64 n, .int .i64 k] w (OkL w) := by
  obtain ⟨hb0, hx0⟩ := one_box w #[.int .i64 f, .int .i64 s, .int .i64 g, .int .i64 r, .string b]
  have HB0 := Lib.hid hb0
  have HX := Lib.hid hx0
  clear hb0 hx0
  have HG := Lib.hid hG.all
  have L := Lib.hid (fun W (h : Gd W) => live_any W h)
  clear hG
  have q1 : ((20000 : Int) < (b.size : Int) + (c.size : Int)) := by omega
  obtain ⟨cX0, cX1, cX2, cX3, cX4⟩ := bx5 HX.out
  go_enter Tryd.func3, Tryd.ntmps3
  go_wp2_with fail
  refine (L.out _ (HG.out _ HB0.out)).mono ?_
  rintro e w1 ⟨rfl, hb⟩
  clear cX0 cX1 cX2 cX3 cX4
  have HX' := Lib.hid ((hb.block _ (heap_lt HX.out)).trans HX.out)
  clear HX
  have HX := HX'
  clear HX'
  have HB1 := Lib.hid (HB0.out.trans (hb.mono HB0.out.size))
  clear hb
  go_wp2_with fail
  go_ret
  exact ⟨rfl, HB1.out⟩
set_option maxRecDepth 100000 in
set_option maxHeartbeats 8000000 in
theorem puts_in (f s g r : Int) (b c : ByteArray) (n k : Int) (w : World) (hb : b.size ≤ 140737488351232) (hc : c.size ≤ 140737488351232) (hG : Gd w) (hl : ¬ 20000 < b.size + c.size) : Calls Tryd.prog 3 #[.agg #[.int .i64 f, .int .i64 s, .int .i64 g, .int .i64 r, .string b], .string c, .int .i64 n, .int .i64 k] w (OkL w) := by
  obtain ⟨hb0, hx0⟩ := one_box w #[.int .i64 f, .int .i64 s, .int .i64 g, .int .i64 r, .string b]
  have HB0 := Lib.hid hb0
  have HX := Lib.hid hx0
  clear hb0 hx0
  have HG := Lib.hid hG.all
  have L := Lib.hid (fun W (h : Gd W) => live_any W h)
  clear hG
  have CA := Lib.hid (fun W h => put_any f s g r b W hb h)
  have CR := Lib.hid (fun W (_ : Gd W) => rput_any f s g r b W hb)
  have CC := Lib.hid (fun W h => check_any f s g r b W hb h)
  have CD := Lib.hid (fun W => rcheck_any f s g r b W hb)
  have CP := Lib.hid (fun W h => parse_any c W hc h)
  have CQ := Lib.hid (fun W (_ : Gd W) => rparse_any c W hc)
  have CE := Lib.hid (fun W => class_any n k W)
  have CF := Lib.hid (fun W => rclass_any n k W)
  unfold PsP at CP CQ
  generalize chk f s g r b = E at CA CR CC CD
  generalize putS f s g r b = X at CA CR
  generalize prs c = p at CP CQ
  generalize prsE c = G at CP CQ
  generalize cls n = C at CE CF
  obtain ⟨N0, N1, N2, N3, B⟩ := p
  have CP : Hid (∀ W, Gd W → Calls Tryd.prog 10 #[.string c] W (Gives (.tuple #[.agg #[.int .i64 N0, .int .i64 N1, .int .i64 N2, .int .i64 N3, .string B], .int .i64 G]) W)) := CP
  have CQ : Hid (∀ W, Gd W → Calls Tryd.prog 11 #[.string c] W (Gives (.tuple #[.agg #[.int .i64 N0, .int .i64 N1, .int .i64 N2, .int .i64 N3, .string B], .int .i64 G]) W)) := CQ
  have eX : (X.toList == X.toList) = true := by simp
  have eB : (B.toList == B.toList) = true := by simp
  have eE : (E == E) = true := by simp
  have eG : (G == G) = true := by simp
  have eC : (C == C) = true := by simp
  have q1 : ¬ ((20000 : Int) < (b.size : Int) + (c.size : Int)) := by omega
  clear hl
  obtain ⟨cX0, cX1, cX2, cX3, cX4⟩ := bx5 HX.out
  go_enter Tryd.func3, Tryd.ntmps3
  go_wp2_with fail
  refine (CA.out _ (HG.out _ HB0.out)).mono ?_
  rintro e w1 ⟨rfl, hb⟩
  clear cX0 cX1 cX2 cX3 cX4
  have HX' := Lib.hid ((hb.block _ (heap_lt HX.out)).trans HX.out)
  clear HX
  have HX := HX'
  clear HX'
  have HB1 := Lib.hid (HB0.out.trans (hb.mono HB0.out.size))
  clear hb
  obtain ⟨cX0, cX1, cX2, cX3, cX4⟩ := bx5 HX.out
  go_wp2_with fail
  refine (CR.out _ (HG.out _ HB1.out)).mono ?_
  rintro e w2 ⟨rfl, hb⟩
  clear cX0 cX1 cX2 cX3 cX4
  have HX' := Lib.hid ((hb.block _ (heap_lt HX.out)).trans HX.out)
  clear HX
  have HX := HX'
  clear HX'
  have HB2 := Lib.hid (HB1.out.trans (hb.mono HB1.out.size))
  clear hb
  obtain ⟨cX0, cX1, cX2, cX3, cX4⟩ := bx5 HX.out
  go_wp2_with fail
  refine (CP.out _ (HG.out _ HB2.out)).mono ?_
  rintro e w3 ⟨rfl, hb⟩
  clear cX0 cX1 cX2 cX3 cX4
  have HX' := Lib.hid ((hb.block _ (heap_lt HX.out)).trans HX.out)
  clear HX
  have HX := HX'
  clear HX'
  have HB3 := Lib.hid (HB2.out.trans (hb.mono HB2.out.size))
  clear hb
  have HX' := Lib.hid ((Below.heap_alloc w3 (.cells #[.int .i64 N0, .int .i64 N1, .int .i64 N2, .int .i64 N3, .string B] 23) _ (heap_lt HX.out)).trans HX.out)
  clear HX
  have HX := HX'
  clear HX'
  have HP := Lib.hid (box_new w3 #[.int .i64 N0, .int .i64 N1, .int .i64 N2, .int .i64 N3, .string B] 23)
  have HB3a := Lib.hid (HB3.out.alloc HB3.out.size (.cells #[.int .i64 N0, .int .i64 N1, .int .i64 N2, .int .i64 N3, .string B] 23))
  obtain ⟨cX0, cX1, cX2, cX3, cX4⟩ := bx5 HX.out
  obtain ⟨cP0, cP1, cP2, cP3, cP4⟩ := bx5 HP.out
  go_wp2_with fail
  refine (CQ.out _ (HG.out _ HB3a.out)).mono ?_
  rintro e w4 ⟨rfl, hb⟩
  clear cX0 cX1 cX2 cX3 cX4
  clear cP0 cP1 cP2 cP3 cP4
  have HX' := Lib.hid ((hb.block _ (heap_lt HX.out)).trans HX.out)
  clear HX
  have HX := HX'
  clear HX'
  have HP' := Lib.hid ((hb.block _ (heap_lt HP.out)).trans HP.out)
  clear HP
  have HP := HP'
  clear HP'
  have HB4 := Lib.hid (HB3a.out.trans (hb.mono HB3a.out.size))
  clear hb
  have HX' := Lib.hid ((Below.heap_alloc w4 (.cells #[.int .i64 N0, .int .i64 N1, .int .i64 N2, .int .i64 N3, .string B] 23) _ (heap_lt HX.out)).trans HX.out)
  clear HX
  have HX := HX'
  clear HX'
  have HP' := Lib.hid ((Below.heap_alloc w4 (.cells #[.int .i64 N0, .int .i64 N1, .int .i64 N2, .int .i64 N3, .string B] 23) _ (heap_lt HP.out)).trans HP.out)
  clear HP
  have HP := HP'
  clear HP'
  have HQ := Lib.hid (box_new w4 #[.int .i64 N0, .int .i64 N1, .int .i64 N2, .int .i64 N3, .string B] 23)
  have HB4a := Lib.hid (HB4.out.alloc HB4.out.size (.cells #[.int .i64 N0, .int .i64 N1, .int .i64 N2, .int .i64 N3, .string B] 23))
  obtain ⟨cX0, cX1, cX2, cX3, cX4⟩ := bx5 HX.out
  obtain ⟨cP0, cP1, cP2, cP3, cP4⟩ := bx5 HP.out
  obtain ⟨cQ0, cQ1, cQ2, cQ3, cQ4⟩ := bx5 HQ.out
  go_wp2_with fail
  generalize w4.alloc (.cells #[.int .i64 N0, .int .i64 N1, .int .i64 N2, .int .i64 N3, .string B] 23) = W2 at HB4a HX HP HQ cX0 cX1 cX2 cX3 cX4 cP0 cP1 cP2 cP3 cP4 cQ0 cQ1 cQ2 cQ3 cQ4 ⊢
  have yX0 : ∀ x : Ext W2, x.to.cell? _ = _ := fun x => ext_cell x cX0
  have yX1 : ∀ x : Ext W2, x.to.cell? _ = _ := fun x => ext_cell x cX1
  have yX2 : ∀ x : Ext W2, x.to.cell? _ = _ := fun x => ext_cell x cX2
  have yX3 : ∀ x : Ext W2, x.to.cell? _ = _ := fun x => ext_cell x cX3
  have yX4 : ∀ x : Ext W2, x.to.cell? _ = _ := fun x => ext_cell x cX4
  have yP0 : ∀ x : Ext W2, x.to.cell? _ = _ := fun x => ext_cell x cP0
  have yP1 : ∀ x : Ext W2, x.to.cell? _ = _ := fun x => ext_cell x cP1
  have yP2 : ∀ x : Ext W2, x.to.cell? _ = _ := fun x => ext_cell x cP2
  have yP3 : ∀ x : Ext W2, x.to.cell? _ = _ := fun x => ext_cell x cP3
  have yP4 : ∀ x : Ext W2, x.to.cell? _ = _ := fun x => ext_cell x cP4
  have yQ0 : ∀ x : Ext W2, x.to.cell? _ = _ := fun x => ext_cell x cQ0
  have yQ1 : ∀ x : Ext W2, x.to.cell? _ = _ := fun x => ext_cell x cQ1
  have yQ2 : ∀ x : Ext W2, x.to.cell? _ = _ := fun x => ext_cell x cQ2
  have yQ3 : ∀ x : Ext W2, x.to.cell? _ = _ := fun x => ext_cell x cQ3
  have yQ4 : ∀ x : Ext W2, x.to.cell? _ = _ := fun x => ext_cell x cQ4
  have XN : Hid (∀ m, Xc W2 12 #[.int .i64 m] (.int .i64 m)) := fun m => xc_pure (fun W => lnum_any m W)
  have XC : Hid (Xc W2 13 #[.agg #[.int .i64 f, .int .i64 s, .int .i64 g, .int .i64 r, .string b]] (.int .i64 E)) := fun x => CC.out x.to (HG.out _ (HB4a.out.trans (x.below.mono HB4a.out.size)))
  have XD : Hid (Xc W2 14 #[.agg #[.int .i64 f, .int .i64 s, .int .i64 g, .int .i64 r, .string b]] (.int .i64 E)) := fun x => CD.out x.to
  have XE : Hid (Xc W2 15 #[.int .i64 n, .int .i64 k] (.int .i64 C)) := xc_pure CE.out
  have XF : Hid (Xc W2 16 #[.int .i64 n, .int .i64 k] (.int .i64 C)) := xc_pure CF.out
  have XL : Hid (Xc W2 7 #[] (.bool true)) := fun x => L.out x.to (HG.out _ (HB4a.out.trans (x.below.mono HB4a.out.size)))
  have hsome := extSome W2
  clear HX HP HQ cX0 cX1 cX2 cX3 cX4 cP0 cP1 cP2 cP3 cP4 cQ0 cQ1 cQ2 cQ3 cQ4 CC CD CE CF L CA CR CP CQ
  refine ext_region (by kernel_rfl) (by kernel_rfl) ?_
  repeat (go_big_quiet_step ((first | (go_at_call 12; with_reducible exact ext_call _ (XN.out _ _)) | (go_at_call 13; with_reducible exact ext_call _ (XC.out _)) | (go_at_call 14; with_reducible exact ext_call _ (XD.out _)) | (go_at_call 15; with_reducible exact ext_call _ (XE.out _)) | (go_at_call 16; with_reducible exact ext_call _ (XF.out _)) | (go_at_call 7; with_reducible exact ext_call _ (XL.out _)))))
  refine wpQuiet_nil ?_
  rintro _ ⟨x, hx⟩
  subst hx
  have HBX := Lib.hid (HB4a.out.trans (x.below.mono HB4a.out.size))
  clear yX0 yX1 yX2 yX3 yX4 yP0 yP1 yP2 yP3 yP4 yQ0 yQ1 yQ2 yQ3 yQ4
  go_wp2_with fail
  go_ret
  exact ⟨rfl, HBX.out⟩
theorem snacPuts_walk (f s g r : Int) (b c : ByteArray) (n k : Int) (w : World) (hb : b.size ≤ 140737488351232) (hc : c.size ≤ 140737488351232) (hG : Gd w) : Calls Tryd.prog 3 #[.agg #[.int .i64 f, .int .i64 s, .int .i64 g, .int .i64 r, .string b], .string c, .int .i64 n, .int .i64 k] w (OkL w) := by
  by_cases hl : 20000 < b.size + c.size
  · exact puts_big f s g r b c n k w hb hc hG hl
  · exact puts_in f s g r b c n k w hb hc hG hl
end Go.Proofs.YthbpkdcjfcbngaaDoor
