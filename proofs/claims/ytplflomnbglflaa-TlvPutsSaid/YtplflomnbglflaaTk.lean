/- A row of values appended to a row of the call's own; the walk of the law TlvPuts. Conditions: those of each theorem's head. -/
import Derived.Test.YtplflomnbglflaaTj
import Derived.Laws.AppendOwnNone
namespace Go.Proofs.Ytplflomnbglflaa
open Go.RowKit Go.Lib Go.Shelf

theorem TvS.cells {w : World} {a : Addr} {l : List Tv} (h : TvS w (some a) l) : ∀ j u, (cellsT l)[j]? = some u → w.cell? (a.add j) = some u := fun j u hu => by
  have hj : j < l.length * 2 := by
    have := (List.getElem?_eq_some_iff.1 hu).1
    rwa [cellsT_len] at this
  have hi : j / 2 < l.length := by omega
  obtain ⟨b, p, e, c0, c1⟩ := h (j / 2) hi
  cases e
  have hadd : (⟨b, p, none⟩ : Addr).add j = ⟨b, p + j, none⟩ := by unfold Addr.add; split <;> simp_all
  rw [hadd]
  have hr : j % 2 = 0 ∨ j % 2 = 1 := by omega
  rcases hr with hr | hr
  · have ej : j = j / 2 * 2 + 0 := by omega
    have e2 := cellsT_at hi (j := 0) (by decide)
    rw [← ej, hu] at e2
    have e3 : u = .int .i64 (l[j / 2]'hi).k := by simpa [Tv.cells] using e2
    rw [e3, show p + j = p + j / 2 * 2 by omega]
    exact c0
  · have ej : j = j / 2 * 2 + 1 := by omega
    have e2 := cellsT_at hi (j := 1) (by decide)
    rw [← ej, hu] at e2
    have e3 : u = .string (l[j / 2]'hi).v := by simpa [Tv.cells] using e2
    rw [e3, show p + j = p + j / 2 * 2 + 1 by omega]
    exact c1
theorem cellsT_one (l : List Tv) : ∀ u ∈ cellsT l, u.oneCell' = true := fun u hu => by
  unfold cellsT at hu
  obtain ⟨t, _, ht⟩ := List.mem_flatMap.1 hu
  unfold Tv.cells at ht
  rcases List.mem_cons.1 ht with rfl | ht
  · rfl
  · rw [List.mem_singleton] at ht
    subst ht
    rfl
theorem cellsT_app (l k : List Tv) : cellsT (l ++ k) = cellsT l ++ cellsT k := by simp [cellsT]
theorem TvS.none_nil {w : World} {l : List Tv} (h : TvS w none l) : l = [] := by
  cases l with
  | nil => rfl
  | cons t l =>
    obtain ⟨_, _, e, _⟩ := h 0 (by simp)
    cases e
/-- 'append(v, l...)' where v is a row of the call's own: a row of its own with l behind it. -/
theorem wpList_append_tv (w : World) {ops : Array Oper} {rest : List Oper} {o : Oper} {a : Act} {Q : Exit → Act → World → Prop} (hgd : o.guard = none) (s x : Operand)
    (ho : o.op = .call { callee := .builtin .append, args := #[s, x], argTypes := #[36, 36] })
    (base : Nat) (v : Value) (acc : List Tv) (hs : a.eval s = v) (hown : w.ownsRow base 56 2 v acc.length (cellsT acc))
    (aL : Option Addr) (l : List Tv) (c : Nat) (hx : a.eval x = .slice aL l.length c) (hL : TvS w aL l) (hc : aL = none → c = 0) (hb : acc.length + l.length ≤ 1000) (hbase : base ≤ w.heap.size)
    (h : ∀ a' c' w', w'.ownsRow base 56 2 (.slice a' (acc ++ l).length c') (acc ++ l).length (cellsT (acc ++ l)) → w.grownBy w' v.ownBlock → wpList Try.prog ops Q rest (a.put o.dst (.slice a' (acc ++ l).length c')) w') :
    wpList Try.prog ops Q (o :: rest) a w := by
  obtain ⟨i0, hi0, hz0, hz1, hz2⟩ := info_parts infoTlv
  cases aL with
  | none =>
    obtain rfl := hL.none_nil
    obtain rfl := hc rfl
    refine wpList_append_own_none hgd s x _ ho base 56 i0 2 Try.underlying36 hi0 v acc.length (cellsT acc) hs hown hx ?_
    rw [List.append_nil] at h
    rcases hown.2 with ⟨rfl, h0⟩ | ⟨g, cap, cur, rfl, _⟩
    · have h2 := h none 0 w (by rw [h0] at hown ⊢; exact hown) ⟨rfl, rfl, rfl, Nat.le_refl _, fun _ _ _ => rfl⟩
      rw [h0] at h2
      exact h2
    · exact h (some ⟨g, 0, none⟩) cap w hown ⟨rfl, rfl, rfl, Nat.le_refl _, fun _ _ _ => rfl⟩
  | some ad =>
    refine wpList_append_own w hgd s x _ ho base 56 i0 _ 2 24 Try.underlying36 hi0 hz0 hz1 hz2 rfl (by decide) v acc.length (cellsT acc) hs hown ad l.length c (cellsT l) hx (cellsT_len l) hL.cells (cellsT_one l) (by unfold maxLen; omega) (by omega) hbase ?_
    intro v' w' h2 h3 _
    rw [← cellsT_app, ← List.length_append] at h2
    rcases h2.2 with ⟨rfl, h0⟩ | ⟨g, cap, cur, rfl, _⟩
    · have h4 := h none 0 w' (by rw [h0] at h2 ⊢; exact h2) h3
      rw [h0] at h4
      exact h4
    · exact h (some ⟨g, 0, none⟩) cap w' h2 h3
set_option maxRecDepth 100000 in
set_option maxHeartbeats 4000000 in
theorem tlvPuts_walk (l : List Tv) (kind : Int) (a : Option Addr) (c : Nat) (w : World) (hL : TvS w a l) (hn : l.length ≤ 140737488351232) (hz : ∀ t ∈ l, t.v.size ≤ 140737488351232) (hc : a = none → c = 0) :
    Calls Try.prog 5 #[.slice a l.length c, .int .i64 kind] w (OkL w) := by
  have HB0 : Hid (Below w.heap.size w w) := Below.refl _ _
  have L := Lib.hid (fun W => live_any W)
  have SM := Lib.hid (small_any l a c w hL hn hz)
  have HL := Lib.hid (fun W (hb : Below w.heap.size w W) => hL.below hb)
  have CP := Lib.hid (fun (W : World) (a : Option Addr) (c : Nat) (h : TvS W a l) => put_any l a c W h hn hz)
  have CQ := Lib.hid (fun (W : World) (a : Option Addr) (c : Nat) (h : TvS W a l) => rput_any l a c W h hn hz)
  have CI := Lib.hid (fun (W : World) (a : Option Addr) (c : Nat) (h : TvS W a l) => find_any l kind a c W h hn hz)
  have CJ := Lib.hid (fun (W : World) (a : Option Addr) (c : Nat) (h : TvS W a l) => rfind_any l kind a c W h hn)
  generalize putS l = P at CP CQ
  generalize putE l = E at CP CQ
  generalize fndS l kind = F at CI CJ
  generalize fndB l kind = B at CI CJ
  have eP : (P.toList == P.toList) = true := by simp
  have eF : (F.toList == F.toList) = true := by simp
  have HC := Lib.hid hc
  clear hL hz hc
  go_enter Try.func5, Try.ntmps5
  go_wp2_with fail
  refine SM.out.mono ?_
  rintro e wz ⟨b, rfl, hw, hb65⟩
  have hw := hw.symm
  subst hw
  clear SM
  cases b
  · go_wp2_with fail
    refine (L.out _).mono ?_
    rintro e w1 ⟨rfl, hb⟩
    have HB1 := Lib.hid (HB0.out.trans (hb.mono HB0.out.size))
    clear hb
    go_wp2_with fail
    go_ret
    exact ⟨rfl, HB1.out⟩
  · have H65 := Lib.hid (hb65 rfl)
    clear hb65 hn
    have HA0 : Hid ((w.alloc (.cells #[] 56)).ownsRow w.heap.size 56 2 (.slice (some ⟨w.heap.size, 0, none⟩) ([] : List Tv).length 0) ([] : List Tv).length (cellsT [])) := World.ownsRow_lit w #[] 0 (Nat.le_refl _) (Nat.zero_le _) rfl
    have HBA : Hid (Below w.heap.size w (w.alloc (.cells #[] 56))) := (Below.refl _ w).alloc (Nat.le_refl _) _
    go_wp2_with (at_builtin; refine wpList_append_tv _ rfl _ _ rfl w.heap.size _ [] rfl HA0.out a l c rfl (HL.out _ HBA.out) HC.out (by have := H65.out; simp; omega) HBA.out.size ?_; intro a2 c2 w2 hown hgrow)
    have HT2 := Lib.hid (tvS_own (l := l) hown)
    have HB20 := Lib.hid (HBA.out.grown hgrow HBA.out.size (fun b9 e9 => (own_heap HA0.out e9).1))
    clear hown hgrow HA0 HBA
    refine (CP.out _ _ _ HT2.out).mono ?_
    rintro e w1 ⟨rfl, hb⟩
    have HB1 := Lib.hid (HB20.out.trans (hb.mono HB20.out.size))
    clear HT2
    clear hb
    go_wp2_with fail
    refine (CQ.out _ _ _ (HL.out _ HB1.out)).mono ?_
    rintro e w2 ⟨rfl, hb⟩
    have HB2 := Lib.hid (HB1.out.trans (hb.mono HB1.out.size))
    clear hb
    go_wp2_with fail
    refine (CI.out _ _ _ (HL.out _ HB2.out)).mono ?_
    rintro e w3 ⟨rfl, hb⟩
    have HB3 := Lib.hid (HB2.out.trans (hb.mono HB2.out.size))
    clear hb
    go_wp2_with fail
    refine (CJ.out _ _ _ (HL.out _ HB3.out)).mono ?_
    rintro e wz ⟨rfl, hw⟩
    have hw := hw.symm
    subst hw
    go_wp2_with fail
    refine (lnum_any _ _).mono ?_
    rintro e wz ⟨rfl, hw⟩
    have hw := hw.symm
    subst hw
    go_wp2_with fail
    refine (L.out _).mono ?_
    rintro e w4 ⟨rfl, hb⟩
    have HB4 := Lib.hid (HB3.out.trans (hb.mono HB3.out.size))
    clear hb
    go_wp2_with fail
    go_ret
    exact ⟨rfl, HB4.out⟩
end Go.Proofs.Ytplflomnbglflaa
