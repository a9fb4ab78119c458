/- What StreamReads says and makes, as plain mathematics. No condition. -/
import Derived.Test.YtolnpfcncmcacaaGreatDoorZq
import Derived.Test.YtolnpfcncmcacaaGreatDoorZp
namespace Go.Proofs.YtolnpfcncmcacaaGreatDoor
open Go.RowKit Go.Lib Go.Shelf Tg Sn
theorem step_append_is {P : Program} {ops : Array Oper} {o : Oper} {a : Act} {K : Act → World → Prop} {Q : Exit → Act → World → Prop} {E : Prop} {w w9 : World} (hgd : o.guard = none) (s x : Operand) (t : TypeId)
   (ho : o.op = .call { callee := .builtin .append, args := #[s, x], argTypes := #[t, t] }) (v y r : Value) (hs : a.eval s = v) (hx : a.eval x = y)
   (hr : ∀ ty, (Builtin.append_ #[t, t] ty #[v, y]).run P w = .ok r w9) (h : K (a.put o.dst r) w9) : if Region.wanted o (yielded ops a.tmps) = true then Oper.wp P o a w K Q else E := by
 have hw : Region.wanted o (yielded ops a.tmps) = true := by simp [Region.wanted, hgd]
 rw [if_pos hw]
 unfold Oper.wp execOp
 simp only [ho, resolve, invoke, builtin, Sem.run_bind, Sem.run_pure, Result.andThen_ok, List.map_toArray, List.map_cons, List.map_nil, hs, hx, hr]
 exact h
def evE (l : List El) : List Et := l.map fun e => ((0 : Int), e, (0 : Int))
theorem els_evE (l : List El) : els (evE l) = l := by
 unfold els evE
 rw [List.map_map]
 exact List.map_id' l
def EtRow (B : Nat) (w0 W : World) (x : Value) (l : List El) : Prop := ∃ xs, W.ownsRow B 50 7 x l.length xs ∧ xs.length = l.length * 7 ∧ ∀ i (h : i < l.length), ∃ aA cA aK cK,
 (∀ j v, [Value.int .i64 0, .string l[i].sp, .string l[i].nm, .slice aA l[i].atr.length cA, .string l[i].tx, .slice aK l[i].ks.length cK, .int .i64 0][j]? = some v → xs[i * 7 + j]? = some v) ∧ In w0.heap.size w0 l[i] (.agg #[.string l[i].sp, .string l[i].nm, .slice aA l[i].atr.length cA, .string l[i].tx, .slice aK l[i].ks.length cK])
theorem EtRow.nil (B : Nat) (w0 W : World) : EtRow B w0 W (.slice none 0 0) [] := ⟨[], World.ownsRow_nil _ _ _ _, rfl, fun i h => by cases h⟩
theorem EtRow.snoc {B : Nat} {w0 W' : World} {xs : List Value} {l : List El} {e : El} {x' : Value} {aA aK : Option Addr} {cA cK : Nat} (hl : xs.length = l.length * 7)
   (hp : ∀ i (h : i < l.length), ∃ aA cA aK cK, (∀ j v, [Value.int .i64 0, .string l[i].sp, .string l[i].nm, .slice aA l[i].atr.length cA, .string l[i].tx, .slice aK l[i].ks.length cK, .int .i64 0][j]? = some v → xs[i * 7 + j]? = some v) ∧ In w0.heap.size w0 l[i] (.agg #[.string l[i].sp, .string l[i].nm, .slice aA l[i].atr.length cA, .string l[i].tx, .slice aK l[i].ks.length cK]))
   (hown : W'.ownsRow B 50 7 x' (l.length + 1) (xs ++ [.int .i64 0, .string e.sp, .string e.nm, .slice aA e.atr.length cA, .string e.tx, .slice aK e.ks.length cK, .int .i64 0]))
   (hin : In w0.heap.size w0 e (.agg #[.string e.sp, .string e.nm, .slice aA e.atr.length cA, .string e.tx, .slice aK e.ks.length cK])) : EtRow B w0 W' x' (l ++ [e]) := by
 refine ⟨_, by rw [List.length_append]; exact hown, by rw [List.length_append, List.length_append, hl]; simp; omega, fun i hi => ?_⟩
 rw [List.length_append] at hi
 by_cases h : i < l.length
 · have hg : (l ++ [e])[i]'(by rw [List.length_append]; exact hi) = l[i] := List.getElem_append_left h
   rw [hg]
   obtain ⟨a1, c1, a2, c2, h1, h2⟩ := hp i h
   refine ⟨a1, c1, a2, c2, fun j v hj => ?_, h2⟩
   have hj7 : j < 7 := by have := (List.getElem?_eq_some_iff.1 hj).1; simpa using this
   rw [List.getElem?_append_left (by omega)]
   exact h1 j v hj
 · obtain rfl : i = l.length := by simp at hi; omega
   have hg : (l ++ [e])[l.length]'(by rw [List.length_append]; exact hi) = e := by simp
   rw [hg]
   refine ⟨aA, cA, aK, cK, fun j v hj => ?_, hin⟩
   rw [List.getElem?_append_right (by omega), hl, Nat.add_sub_cancel_left]
   exact hj
theorem EtRow.etIn {B : Nat} {w0 W : World} {a : Option Addr} {c : Nat} {l : List El} (h : EtRow B w0 W (.slice a l.length c) l) (hb : Below w0.heap.size w0 W) : EtIn W.heap.size W a (evE l) := by
 obtain ⟨xs, hx, hl, hp⟩ := h
 intro i hi
 have hi2 : i < l.length := by simpa [evE] using hi
 have hg : (evE l)[i] = ((0 : Int), l[i], (0 : Int)) := by simp [evE]
 rw [hg]
 obtain ⟨aA, cA, aK, cK, hc, hin⟩ := hp i hi2
 rcases hx.2 with ⟨hv, h0⟩ | ⟨g, cap, cur, hv, hbg, hgg, _, _, hsz, ht⟩
 · omega
 · simp only [Value.slice.injEq] at hv
   obtain ⟨rfl, _, rfl⟩ := hv
   have q : ∀ j v, [Value.int .i64 0, .string l[i].sp, .string l[i].nm, .slice aA l[i].atr.length cA, .string l[i].tx, .slice aK l[i].ks.length cK, .int .i64 0][j]? = some v → W.cell? ⟨g, 0 + i * 7 + j, none⟩ = some v := fun j v hj => by
     have h1 := hc j v hj
     rw [← ht, List.getElem?_take] at h1
     rw [Lib.cell_of_heap hgg, Nat.zero_add]
     split at h1
     · simpa using h1
     · cases h1
   exact ⟨g, 0, aA, cA, aK, cK, rfl, heap_lt hgg, ⟨q 0 _ rfl, q 1 _ rfl, q 2 _ rfl, q 3 _ rfl, q 4 _ rfl, q 5 _ rfl, q 6 _ rfl⟩, (hin.stay hb).mono hb.size, by show (Lit.int .i64 0).wf = true; decide⟩
theorem beg_ok {d s : ByteArray} (h : begB d s = true) : isTx d.data.toList = true ∧ q d.data.toList = d.data.toList := by
 unfold begB at h
 simp only [Bool.and_eq_true] at h
 have hj := (Jd.ok_iff _).1 h.1
 obtain ⟨_, ⟨_, ⟨cs, ht⟩, _⟩, _, _, _, hdm⟩ := hj
 exact ⟨(isTx_iff _).2 ⟨cs, ht⟩, q_dm hdm⟩
theorem head_txt {d X : ByteArray} (hq : q d.data.toList = d.data.toList) (hX : X.data.toList = headL ++ (d.data.toList ++ [39, 62])) : X.data.toList = proL ++ (60 :: (tagD d ++ [62])) := by
 rw [hX]
 unfold tagD hdA
 simp only [Tg.marks, Tg.mark, List.flatMap_cons, List.flatMap_nil, Sn.mk_list, hq]
 rw [show q cmpL = cmpL from by decide, show q spaL = spaL from by decide]
 simp only [headL, List.append_assoc, List.cons_append, List.nil_append, proL, hdN, xmlns, cmpL, xsN, spaL, toN, List.append_nil]
def elK (id s : ByteArray) : El := .mk (Sn.mk cmpL) shakeN [] (hexT id s) []
theorem dg_low : ∀ n : Fin 16, (qb (Dg.dg n.val) == [Dg.dg n.val]) = true ∧ 32 ≤ (Dg.dg n.val).toNat ∧ (Dg.dg n.val).toNat < 127 := by decide
theorem hx_low : ∀ (l : List UInt8), ∀ c ∈ Dg.hx l, qb c = [c] ∧ (32 ≤ c.toNat ∧ c.toNat < 127)
 | [], c, h => by cases h
 | a :: l, c, h => by
   have h1 : a.toNat / 16 < 16 := by have := a.toNat_lt; omega
   have h2 : a.toNat % 16 < 16 := Nat.mod_lt _ (by decide)
   rcases List.mem_cons.1 h with rfl | h
   · have := dg_low ⟨_, h1⟩
     exact ⟨eq_of_beq this.1, this.2⟩
   · rcases List.mem_cons.1 h with rfl | h
     · have := dg_low ⟨_, h2⟩
       exact ⟨eq_of_beq this.1, this.2⟩
     · exact hx_low l c h
theorem hexT_q (id s : ByteArray) : q (hexT id s).data.toList = (hexT id s).data.toList := q_same fun c hc => by
 rw [hexT_list] at hc
 exact (hx_low _ c hc).1
theorem hexT_tx (id s : ByteArray) : isTx (hexT id s).data.toList = true := by
 refine asc_text (List.all_eq_true.2 fun c hc => ?_)
 rw [hexT_list] at hc
 have := (hx_low _ c hc).2
 simp only [Bool.and_eq_true, decide_eq_true_eq]
 exact this
theorem elK_rt (id s : ByteArray) : Rt 1 (elK id s) :=
 .mk 1 (Sn.mk cmpL) shakeN [] (hexT id s) [] (by decide) (by decide) (by decide) (by decide) (by rw [Sn.mk_list]; exact asc_text (by decide)) (hexT_tx id s) (by decide) (fun a ha => by cases ha) List.Pairwise.nil (fun k hk => by cases hk)
theorem elK_put (id s : ByteArray) : put (elK id s) (Sn.mk cmpL) = (shakeT id s).data.toList := by
 have h0 : emp (elK id s).tx (elK id s).ks = false := emp_b (by
   show (hexT id s).toList.isEmpty = false
   rw [ByteArray.toList_eq]
   have := hexT_size id s
   rw [Lib.size_eq] at this
   cases h : (hexT id s).data.toList with
   | nil => rw [h] at this; cases this
   | cons a r => rfl)
 rw [put_full h0]
 unfold hd5 shakeT
 rw [show (elK id s).sp = Sn.mk cmpL from rfl, if_pos rfl, By.append_list, By.append_list]
 show 60 :: (shakeN.data.toList ++ []) ++ Tg.marks [] ++ 62 :: q (hexT id s).data.toList ++ puts [] (Sn.mk cmpL) ++ ([60, 47] ++ shakeN.data.toList ++ [62]) = _
 rw [hexT_q, puts_nil]
 simp [Tg.marks, shakeN]
theorem shk_fed (id s : ByteArray) (n : Nat) : Sn.feed (S [opD] n) (shakeT id s).data.toList = (S [opD] 63, [⟨2, elK id s, 0⟩]) := by
 have hl : (put (elK id s) (Sn.mk cmpL)).length = 63 := by
   rw [elK_put, ← Lib.size_eq, shakeT_size]
 have := D_put (elK_rt id s) (by omega) n
 rw [elK_put] at this
 rw [this, ← elK_put, hl]
def evR (d s : ByteArray) (l : List El) : List Ev := ⟨1, elD d, 0⟩ :: ⟨2, elK ⟨#[51]⟩ s, 0⟩ :: l.map fun e => (⟨2, e, 0⟩ : Ev)
theorem evR_snoc (d s : ByteArray) (l : List El) (e : El) : evR d s l ++ [⟨2, e, 0⟩] = evR d s (l ++ [e]) := by simp [evR]
theorem evR_len (d s : ByteArray) (l : List El) : (evR d s l).length = l.length + 2 := by simp [evR]
theorem put_les8 {e : El} (h : e.sp ≠ Sn.mk []) (s : ByteArray) : (put e s).length ≤ (put e (Sn.mk [])).length := by
 rw [put_hd, put_hd e (Sn.mk [])]
 have : (hd5 e s).length ≤ (hd5 e (Sn.mk [])).length := by
   unfold hd5
   rw [if_neg h]
   simp only [List.length_cons, List.length_append]
   split
   · simp
   · exact Nat.le_refl _
 simp only [List.length_append]
 omega
theorem rt_sp8 {n : Nat} {e : El} (h : Rt n e) : e.sp ≠ Sn.mk [] := by
 cases h with
 | mk _ sp nm atr tx ks h1 h2 h3 h4 h5 h6 h7 h8 h9 h10 => exact fun e => h3 (by show sp.size = 0; rw [show sp = Sn.mk [] from e]; rfl)
theorem iv_next {st st' : St} {l : B8} {evs : List Ev} (h : Iv st) (hf : Sn.feed st l = (st', evs)) (ho : st'.over = false) : Iv st' := by
 have := feed_iv l h (by rw [hf]; exact ho)
 rwa [hf] at this
theorem endT_e : endT 3 ⟨#[]⟩ = ⟨#[60, 47, 115, 116, 114, 101, 97, 109, 58, 115, 116, 114, 101, 97, 109, 62]⟩ := by kernel_rfl
def evF (d s : ByteArray) (l : List El) : List Ev := evR d s l ++ [⟨3, El0, 0⟩]
theorem evF_len (d s : ByteArray) (l : List El) : (evF d s l).length = l.length + 3 := by simp [evF, evR_len]
theorem evF_0 (d s : ByteArray) (l : List El) (h : 0 < (evF d s l).length) : (evF d s l)[0]'h = ⟨1, elD d, 0⟩ := rfl
theorem evF_1 (d s : ByteArray) (l : List El) (h : 1 < (evF d s l).length) : (evF d s l)[1]'h = ⟨2, elK ⟨#[51]⟩ s, 0⟩ := rfl
theorem evF_mid (d s : ByteArray) (l : List El) {i : Nat} (hi : i < l.length) (h : i + 2 < (evF d s l).length) : (evF d s l)[i + 2]'h = ⟨2, l[i], 0⟩ := by
 revert h; unfold evF; intro h
 rw [List.getElem_append_left (by rw [evR_len]; omega)]
 show (l.map fun e => (⟨2, e, 0⟩ : Ev))[i]'(by simpa using hi) = _
 rw [List.getElem_map]
theorem evF_last (d s : ByteArray) (l : List El) (h : l.length + 2 < (evF d s l).length) : (evF d s l)[l.length + 2]'h = ⟨3, El0, 0⟩ := by
 revert h; unfold evF; intro h
 rw [List.getElem_append_right (by rw [evR_len]; exact Nat.le_refl _)]
 simp [evR_len]
theorem in_cells8 {B : Nat} {w : World} {e : El} {v0 v1 v2 v3 v4 : Value} (h : In B w e (.agg #[v0, v1, v2, v3, v4])) : ∃ aA cA aK cK, v0 = .string e.sp ∧ v1 = .string e.nm ∧ v2 = .slice aA e.atr.length cA ∧ v3 = .string e.tx ∧ v4 = .slice aK e.ks.length cK ∧ AtIn B w aA e.atr := by
 obtain ⟨aA, cA, aK, cK, he, _, _, hat, _⟩ := h.out
 have h1 := congrArg (fun v => match v with | Value.agg a => a.toList | _ => []) he
 simp only [List.cons.injEq, and_true] at h1
 exact ⟨aA, cA, aK, cK, h1.1, h1.2.1, h1.2.2.1, h1.2.2.2.1, h1.2.2.2.2, hat⟩
end Go.Proofs.YtolnpfcncmcacaaGreatDoor
