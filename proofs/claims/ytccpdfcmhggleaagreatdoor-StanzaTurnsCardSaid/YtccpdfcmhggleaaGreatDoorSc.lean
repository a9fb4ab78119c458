/- Contracts of stanza.conditions, a map that is made anew, and of hasCond, kindOfError, which look into it. Condition: texts have at most 1048576 bytes. -/
import Derived.Test.YtccpdfcmhggleaaGreatDoorSb
import Derived.Maps.Own
import Derived.Maps.OwnSet
import Derived.Maps.Views
import Derived.StringKeys
import Derived.Deep.RegionWith
namespace Go.Proofs.YtccpdfcmhggleaaGreatDoor
open Go.RowKit Go.Lib Go.Shelf Tg St Go.Maps

/-- How a condition reads. -/
def condR : Value → Option (DataW Unit × List MemPlace)
  | .agg cs => match cs.toList with
    | [.string s] => some (.lit (.string s.data.toList), [])
    | _ => none
  | _ => none
theorem condR_mk (s : ByteArray) : condR (.agg #[.string s]) = some (.lit (.string s.data.toList), []) := rfl
theorem condR_inv {v : Value} {z : DataW Unit × List MemPlace} (h : condR v = some z) : ∃ s : ByteArray, v = .agg #[.string s] ∧ z.1 = .lit (.string s.data.toList) := by
  unfold condR at h
  split at h
  · rename_i cs
    split at h
    · rename_i s hs
      cases h
      exact ⟨s, by rw [show cs = #[.string s] from by apply Array.toList_inj.1; exact hs], rfl⟩
    · cases h
  · cases h
theorem lawS : Keyed Tryz.prog 9 := string_keyed Tryz.underlying9
theorem zeroC (w : World) : (zeroValue 74).run Tryz.prog w = .ok (.agg #[.string ⟨#[]⟩]) w := by kernel_rfl
def kS (s : ByteArray) : Lit := .string s.data.toList
def kD (s : ByteArray) : DataW Unit := .lit (.string s.data.toList)
theorem kS_ne {a b : ByteArray} (h : a ≠ b) : kS a ≠ kS b := fun e => h (by unfold kS at e; injection e with e; exact By.bytes_ext e)
theorem kS_key (s : ByteArray) : WideAt.IsKeyLit (kS s) := by trivial
theorem kD_inj {s t : ByteArray} (h : kD s = kD t) : s = t := by
  unfold kD at h
  injection h with h
  injection h with h
  exact By.bytes_ext h
/-- A map that holds these. -/
def putsM (L : List (ByteArray × ByteArray)) (M : DataW Unit) : DataW Unit := L.foldl (fun D p => D.put (kS p.1) (kD p.2)) M
theorem putsM_has (c : ByteArray) : ∀ (L : List (ByteArray × ByteArray)) (M : DataW Unit), IsMap M → Maps.has (putsM L M) (kS c) = (Maps.has M (kS c) || L.any fun p => eqb c p.1)
  | [], M, _ => by simp [putsM]
  | p :: r, M, hM => by
    have e : putsM (p :: r) M = putsM r (M.put (kS p.1) (kD p.2)) := rfl
    rw [e, putsM_has c r _ (IsMap.put hM _ _), List.any_cons]
    by_cases h : c = p.1
    · rw [h, Maps.has_put_same hM (kS_key _), eqb_self]; simp
    · rw [Maps.has_put_other (kS_ne h), eqb_ne h]; simp
theorem putsM_at (c : ByteArray) (z : DataW Unit) : ∀ (L : List (ByteArray × ByteArray)) (M : DataW Unit), IsMap M → (L.map (·.1)).Nodup → (putsM L M).atKey (kS c) z = match L.find? (fun p => eqb c p.1) with
    | some p => kD p.2
    | none => M.atKey (kS c) z
  | [], M, _, _ => rfl
  | p :: r, M, hM, hn => by
    have e : putsM (p :: r) M = putsM r (M.put (kS p.1) (kD p.2)) := rfl
    rw [List.map_cons, List.nodup_cons] at hn
    rw [e, putsM_at c z r _ (IsMap.put hM _ _) hn.2]
    by_cases h : c = p.1
    · rw [List.find?_cons_of_pos (by rw [h]; exact eqb_self _)]
      have hno : r.find? (fun q => eqb c q.1) = none := by
        rw [List.find?_eq_none]
        intro q hq he
        exact hn.1 (by rw [← h, eqb_iff.1 he]; exact List.mem_map_of_mem hq)
      rw [hno, h]
      exact Maps.atKey_put_same hM (kS_key _) _ _
    · rw [List.find?_cons_of_neg (by rw [eqb_ne h]; simp)]
      split
      · rfl
      · exact Maps.atKey_put_other (kS_ne h) _ _
theorem conds_nodup : (conds.map (·.1)).Nodup := by decide +kernel
/-- Block b is the map of all conditions. -/
def CondM (b : Nat) (w : World) : Prop := w.ownsMap Tryz.prog 9 condR b 18 (putsM conds (.map []))
theorem CondM.later {b : Nat} {w w' : World} (h : CondM b w) (hb : Below w.heap.size w w') : CondM b w' := by
  obtain ⟨es, clock, h1, h2⟩ := h
  exact ⟨es, clock, (hb.block b (heap_lt h1)).trans h1, h2⟩
/-- What a look into it gives. -/
theorem CondM.look {b : Nat} {w : World} (h : CondM b w) (c : ByteArray) (hc : c.size ≤ 1048576) :
    ∃ s, (∀ w', Below w.heap.size w w' → (Instr.lookup 76 (.map (some b)) (.string c) true).run Tryz.prog w' = .ok (.tuple #[.agg #[.string s], .bool (isCond c)]) w') ∧ (isCond c = true → s = kindOfErr c) := by
  have one : ∀ w' : World, CondM b w' → ∃ s, (Instr.lookup 76 (.map (some b)) (.string c) true).run Tryz.prog w' = .ok (.tuple #[.agg #[.string s], .bool (isCond c)]) w' ∧ kD s = (putsM conds (.map [])).atKey (kS c) (kD ⟨#[]⟩) := by
    intro w' h'
    obtain ⟨v, ps, hlook, hv⟩ := World.ownsMap.look_ok h' lawS Tryz.underlying76 (zeroC w') (condR_mk ⟨#[]⟩) (key := .string c) (kl := kS c) (WideMaps.keyOf_string_mk Tryz.underlying9 (by unfold maxLen; omega))
    obtain ⟨s, rfl, hs⟩ := condR_inv hv
    have hh : Maps.has (putsM conds (.map [])) (kS c) = isCond c := by
      rw [putsM_has c conds _ Maps.isMap_empty]
      unfold isCond
      simp [Maps.has_eq]
    rw [hh] at hlook
    exact ⟨s, hlook, hs.symm⟩
  obtain ⟨s, _, hs⟩ := one w h
  refine ⟨s, fun w' hb => ?_, fun hi => ?_⟩
  · obtain ⟨s', h1, h2⟩ := one w' (h.later hb)
    rw [← hs] at h2
    rw [← kD_inj h2]
    exact h1
  · rw [putsM_at c _ conds _ Maps.isMap_empty conds_nodup] at hs
    unfold kindOfErr
    unfold isCond at hi
    cases hf : conds.find? (fun p => eqb c p.1) with
    | none =>
      exfalso
      rw [List.find?_eq_none] at hf
      obtain ⟨p, hp, he⟩ := List.any_eq_true.1 hi
      exact hf p hp he
    | some p =>
      rw [hf] at hs
      exact kD_inj hs
/-- The four boxes of the types. -/
structure CB (B : Nat) (w : World) : Prop where
  lt : B + 4 < w.heap.size
  c0 : w.cell? ⟨B, 0, none⟩ = some (.string ⟨#[97, 117, 116, 104]⟩)
  c1 : w.cell? ⟨B + 1, 0, none⟩ = some (.string ⟨#[99, 97, 110, 99, 101, 108]⟩)
  c2 : w.cell? ⟨B + 2, 0, none⟩ = some (.string ⟨#[109, 111, 100, 105, 102, 121]⟩)
  c3 : w.cell? ⟨B + 3, 0, none⟩ = some (.string ⟨#[119, 97, 105, 116]⟩)
theorem CB.gr {B : Nat} {w w' : World} (h : CB B w) (hg : w.grownBy w' (some (B + 4))) : CB B w' := by
  have hl := h.lt
  have k : ∀ (b : Nat) (v : Value), b < B + 4 → w.cell? ⟨b, 0, none⟩ = some v → w'.cell? ⟨b, 0, none⟩ = some v := fun b v hb hv =>
    (hg.cell_far ⟨b, 0, none⟩ (by show b < w.heap.size; omega) (by intro e; injection e with e; simp at e; omega)).trans hv
  exact ⟨Nat.lt_of_lt_of_le hl hg.size, k _ _ (by omega) h.c0, k _ _ (by omega) h.c1, k _ _ (by omega) h.c2, k _ _ (by omega) h.c3⟩
/-- The world in which the map is made. -/
def W4 (w : World) : World := (((w.alloc (.cells #[.string ⟨#[97, 117, 116, 104]⟩] 74)).alloc (.cells #[.string ⟨#[99, 97, 110, 99, 101, 108]⟩] 74)).alloc (.cells #[.string ⟨#[109, 111, 100, 105, 102, 121]⟩] 74)).alloc (.cells #[.string ⟨#[119, 97, 105, 116]⟩] 74)
theorem W4_size (w : World) : (W4 w).heap.size = w.heap.size + 4 := by unfold W4; simp
theorem cb_new (w : World) : CB w.heap.size ((W4 w).alloc (.map #[] 0)) := by
  have q : ∀ (W : World) (b : Nat) (v : Value) (o : Obj), W.cell? ⟨b, 0, none⟩ = some v → (W.alloc o).cell? ⟨b, 0, none⟩ = some v := fun W b v o h => cell_alloc h o
  have n : ∀ (W : World) (v : Value) (t : TypeId), (W.alloc (.cells #[v] t)).cell? ⟨W.heap.size, 0, none⟩ = some v := fun W v t => by rw [Lib.cell_of_heap (box_new W _ _)]; rfl
  have a1 : ∀ (W : World) (o : Obj), (W.alloc o).heap.size = W.heap.size + 1 := fun W o => by simp
  unfold W4
  refine ⟨by simp, q _ _ _ _ (q _ _ _ _ (q _ _ _ _ (q _ _ _ _ (n w _ _)))), q _ _ _ _ (q _ _ _ _ (q _ _ _ _ ?_)), q _ _ _ _ (q _ _ _ _ ?_), q _ _ _ _ ?_⟩
  · have := n (w.alloc (.cells #[.string ⟨#[97, 117, 116, 104]⟩] 74)) (.string ⟨#[99, 97, 110, 99, 101, 108]⟩) 74
    rwa [a1] at this
  · have := n ((w.alloc (.cells #[.string ⟨#[97, 117, 116, 104]⟩] 74)).alloc (.cells #[.string ⟨#[99, 97, 110, 99, 101, 108]⟩] 74)) (.string ⟨#[109, 111, 100, 105, 102, 121]⟩) 74
    rwa [a1, a1] at this
  · have := n (((w.alloc (.cells #[.string ⟨#[97, 117, 116, 104]⟩] 74)).alloc (.cells #[.string ⟨#[99, 97, 110, 99, 101, 108]⟩] 74)).alloc (.cells #[.string ⟨#[109, 111, 100, 105, 102, 121]⟩] 74)) (.string ⟨#[119, 97, 105, 116]⟩) 74
    rwa [a1, a1, a1] at this
theorem rg_a {w W w1 : World} (h : Below w.heap.size w W) (hb : Below W.drew.heap.size W.drew w1) : Below w.heap.size w w1 := h.drew.trans (hb.mono h.size)
theorem rg_b {w W w1 : World} {o : Obj} (h : Below w.heap.size w W) (hb : Below (W.alloc o).drew.heap.size (W.alloc o).drew w1) : Below w.heap.size w w1 := rg_a (h.alloc h.size o) hb
theorem rg_ca {W w1 : World} {b i : Nat} {v : Value} (h : W.cell? ⟨b, i, none⟩ = some v) (hb : Below W.drew.heap.size W.drew w1) : w1.cell? ⟨b, i, none⟩ = some v := (hb.cell (p := ⟨b, i, none⟩) (World.block_lt_of_cell? W _ h)).trans h
theorem rg_cb {W w1 : World} {b i : Nat} {v : Value} {o : Obj} (h : W.cell? ⟨b, i, none⟩ = some v) (hb : Below (W.alloc o).drew.heap.size (W.alloc o).drew w1) : w1.cell? ⟨b, i, none⟩ = some v := rg_ca (cell_alloc h o) hb
/-- A box that is made ahead of the call. -/
theorem rg_t {W w1 : World} {v : Value} {t : TypeId} (hb : Below (W.alloc (.cells #[v] t)).drew.heap.size (W.alloc (.cells #[v] t)).drew w1) : w1.cell? ⟨W.heap.size, 0, none⟩ = some v ∧ w1.frozen? ⟨W.heap.size, 0, none⟩ = false := by
  have h := (hb.block W.heap.size (by show _ < (W.alloc _).heap.size; simp)).trans (box_new W _ _)
  exact ⟨by rw [Lib.cell_of_heap h]; rfl, Lib.frozen_of_heap h 0⟩
theorem below_grown {B b : Nat} {w w1 w2 : World} (h : Below B w w1) (hB : B ≤ w1.heap.size) (hg : w1.grownBy w2 (some b)) (hb : B ≤ b) : Below B w w2 := h.grown hg hB fun _ e => by cases e; exact hb
/-- What conditions gives. -/
def CmP (w : World) (r : Ending) (w' : World) : Prop := ∃ b, r = .returned (.map (some b)) ∧ CondM b w' ∧ Below w.heap.size w w'
set_option maxRecDepth 100000 in
set_option maxHeartbeats 8000000 in
theorem conditions_any (w : World) : Calls Tryz.prog 54 #[] w (CmP w) := by
  have hmm := @run_makeMap Tryz.prog
  have hsz := W4_size w
  have hown0 := World.ownsMap_made (H := Unit) (W4 w) Tryz.prog 9 condR
  rw [hsz] at hown0
  have HB0 : Below w.heap.size w ((W4 w).alloc (.map #[] 0)) := by
    unfold W4
    exact (((((Below.refl _ w).alloc (Nat.le_refl _) _).alloc (by simp) _).alloc (by simp; omega) _).alloc (by simp; omega) _).alloc (by simp; omega) _
  have hm0 : CB w.heap.size ((W4 w).alloc (.map #[] 0)) := cb_new w
  have c0 : ((W4 w).alloc (.map #[] 0)).cell? ⟨w.heap.size + 2, 0, none⟩ = some (.string ⟨#[109, 111, 100, 105, 102, 121]⟩) := hm0.c2
  obtain ⟨w1, hrun1, hown1, hgrow1⟩ := hown0.update lawS Tryz.underlying76 (by decide) (key := .string ⟨#[98, 97, 100, 45, 114, 101, 113, 117, 101, 115, 116]⟩) (val := .agg #[.string ⟨#[109, 111, 100, 105, 102, 121]⟩]) (WideMaps.keyOf_string_mk Tryz.underlying9 (by decide)) (condR_mk _)
  have hm1 : CB w.heap.size w1 := hm0.gr hgrow1
  have c1 : w1.cell? ⟨w.heap.size + 1, 0, none⟩ = some (.string ⟨#[99, 97, 110, 99, 101, 108]⟩) := hm1.c1
  obtain ⟨w2, hrun2, hown2, hgrow2⟩ := hown1.update lawS Tryz.underlying76 (by decide) (key := .string ⟨#[99, 111, 110, 102, 108, 105, 99, 116]⟩) (val := .agg #[.string ⟨#[99, 97, 110, 99, 101, 108]⟩]) (WideMaps.keyOf_string_mk Tryz.underlying9 (by decide)) (condR_mk _)
  have hm2 : CB w.heap.size w2 := hm1.gr hgrow2
  have c2 : w2.cell? ⟨w.heap.size + 1, 0, none⟩ = some (.string ⟨#[99, 97, 110, 99, 101, 108]⟩) := hm2.c1
  obtain ⟨w3, hrun3, hown3, hgrow3⟩ := hown2.update lawS Tryz.underlying76 (by decide) (key := .string ⟨#[102, 101, 97, 116, 117, 114, 101, 45, 110, 111, 116, 45, 105, 109, 112, 108, 101, 109, 101, 110, 116, 101, 100]⟩) (val := .agg #[.string ⟨#[99, 97, 110, 99, 101, 108]⟩]) (WideMaps.keyOf_string_mk Tryz.underlying9 (by decide)) (condR_mk _)
  have hm3 : CB w.heap.size w3 := hm2.gr hgrow3
  have c3 : w3.cell? ⟨w.heap.size, 0, none⟩ = some (.string ⟨#[97, 117, 116, 104]⟩) := hm3.c0
  obtain ⟨w4, hrun4, hown4, hgrow4⟩ := hown3.update lawS Tryz.underlying76 (by decide) (key := .string ⟨#[102, 111, 114, 98, 105, 100, 100, 101, 110]⟩) (val := .agg #[.string ⟨#[97, 117, 116, 104]⟩]) (WideMaps.keyOf_string_mk Tryz.underlying9 (by decide)) (condR_mk _)
  have hm4 : CB w.heap.size w4 := hm3.gr hgrow4
  have c4 : w4.cell? ⟨w.heap.size + 3, 0, none⟩ = some (.string ⟨#[119, 97, 105, 116]⟩) := hm4.c3
  obtain ⟨w5, hrun5, hown5, hgrow5⟩ := hown4.update lawS Tryz.underlying76 (by decide) (key := .string ⟨#[105, 110, 116, 101, 114, 110, 97, 108, 45, 115, 101, 114, 118, 101, 114, 45, 101, 114, 114, 111, 114]⟩) (val := .agg #[.string ⟨#[119, 97, 105, 116]⟩]) (WideMaps.keyOf_string_mk Tryz.underlying9 (by decide)) (condR_mk _)
  have hm5 : CB w.heap.size w5 := hm4.gr hgrow5
  have c5 : w5.cell? ⟨w.heap.size + 1, 0, none⟩ = some (.string ⟨#[99, 97, 110, 99, 101, 108]⟩) := hm5.c1
  obtain ⟨w6, hrun6, hown6, hgrow6⟩ := hown5.update lawS Tryz.underlying76 (by decide) (key := .string ⟨#[105, 116, 101, 109, 45, 110, 111, 116, 45, 102, 111, 117, 110, 100]⟩) (val := .agg #[.string ⟨#[99, 97, 110, 99, 101, 108]⟩]) (WideMaps.keyOf_string_mk Tryz.underlying9 (by decide)) (condR_mk _)
  have hm6 : CB w.heap.size w6 := hm5.gr hgrow6
  have c6 : w6.cell? ⟨w.heap.size + 2, 0, none⟩ = some (.string ⟨#[109, 111, 100, 105, 102, 121]⟩) := hm6.c2
  obtain ⟨w7, hrun7, hown7, hgrow7⟩ := hown6.update lawS Tryz.underlying76 (by decide) (key := .string ⟨#[106, 105, 100, 45, 109, 97, 108, 102, 111, 114, 109, 101, 100]⟩) (val := .agg #[.string ⟨#[109, 111, 100, 105, 102, 121]⟩]) (WideMaps.keyOf_string_mk Tryz.underlying9 (by decide)) (condR_mk _)
  have hm7 : CB w.heap.size w7 := hm6.gr hgrow7
  have c7 : w7.cell? ⟨w.heap.size + 2, 0, none⟩ = some (.string ⟨#[109, 111, 100, 105, 102, 121]⟩) := hm7.c2
  obtain ⟨w8, hrun8, hown8, hgrow8⟩ := hown7.update lawS Tryz.underlying76 (by decide) (key := .string ⟨#[110, 111, 116, 45, 97, 99, 99, 101, 112, 116, 97, 98, 108, 101]⟩) (val := .agg #[.string ⟨#[109, 111, 100, 105, 102, 121]⟩]) (WideMaps.keyOf_string_mk Tryz.underlying9 (by decide)) (condR_mk _)
  have hm8 : CB w.heap.size w8 := hm7.gr hgrow8
  have c8 : w8.cell? ⟨w.heap.size + 1, 0, none⟩ = some (.string ⟨#[99, 97, 110, 99, 101, 108]⟩) := hm8.c1
  obtain ⟨w9, hrun9, hown9, hgrow9⟩ := hown8.update lawS Tryz.underlying76 (by decide) (key := .string ⟨#[110, 111, 116, 45, 97, 108, 108, 111, 119, 101, 100]⟩) (val := .agg #[.string ⟨#[99, 97, 110, 99, 101, 108]⟩]) (WideMaps.keyOf_string_mk Tryz.underlying9 (by decide)) (condR_mk _)
  have hm9 : CB w.heap.size w9 := hm8.gr hgrow9
  have c9 : w9.cell? ⟨w.heap.size, 0, none⟩ = some (.string ⟨#[97, 117, 116, 104]⟩) := hm9.c0
  obtain ⟨w10, hrun10, hown10, hgrow10⟩ := hown9.update lawS Tryz.underlying76 (by decide) (key := .string ⟨#[110, 111, 116, 45, 97, 117, 116, 104, 111, 114, 105, 122, 101, 100]⟩) (val := .agg #[.string ⟨#[97, 117, 116, 104]⟩]) (WideMaps.keyOf_string_mk Tryz.underlying9 (by decide)) (condR_mk _)
  have hm10 : CB w.heap.size w10 := hm9.gr hgrow10
  have c10 : w10.cell? ⟨w.heap.size + 3, 0, none⟩ = some (.string ⟨#[119, 97, 105, 116]⟩) := hm10.c3
  obtain ⟨w11, hrun11, hown11, hgrow11⟩ := hown10.update lawS Tryz.underlying76 (by decide) (key := .string ⟨#[114, 101, 99, 105, 112, 105, 101, 110, 116, 45, 117, 110, 97, 118, 97, 105, 108, 97, 98, 108, 101]⟩) (val := .agg #[.string ⟨#[119, 97, 105, 116]⟩]) (WideMaps.keyOf_string_mk Tryz.underlying9 (by decide)) (condR_mk _)
  have hm11 : CB w.heap.size w11 := hm10.gr hgrow11
  have c11 : w11.cell? ⟨w.heap.size, 0, none⟩ = some (.string ⟨#[97, 117, 116, 104]⟩) := hm11.c0
  obtain ⟨w12, hrun12, hown12, hgrow12⟩ := hown11.update lawS Tryz.underlying76 (by decide) (key := .string ⟨#[114, 101, 103, 105, 115, 116, 114, 97, 116, 105, 111, 110, 45, 114, 101, 113, 117, 105, 114, 101, 100]⟩) (val := .agg #[.string ⟨#[97, 117, 116, 104]⟩]) (WideMaps.keyOf_string_mk Tryz.underlying9 (by decide)) (condR_mk _)
  have hm12 : CB w.heap.size w12 := hm11.gr hgrow12
  have c12 : w12.cell? ⟨w.heap.size + 1, 0, none⟩ = some (.string ⟨#[99, 97, 110, 99, 101, 108]⟩) := hm12.c1
  obtain ⟨w13, hrun13, hown13, hgrow13⟩ := hown12.update lawS Tryz.underlying76 (by decide) (key := .string ⟨#[114, 101, 109, 111, 116, 101, 45, 115, 101, 114, 118, 101, 114, 45, 110, 111, 116, 45, 102, 111, 117, 110, 100]⟩) (val := .agg #[.string ⟨#[99, 97, 110, 99, 101, 108]⟩]) (WideMaps.keyOf_string_mk Tryz.underlying9 (by decide)) (condR_mk _)
  have hm13 : CB w.heap.size w13 := hm12.gr hgrow13
  have c13 : w13.cell? ⟨w.heap.size + 3, 0, none⟩ = some (.string ⟨#[119, 97, 105, 116]⟩) := hm13.c3
  obtain ⟨w14, hrun14, hown14, hgrow14⟩ := hown13.update lawS Tryz.underlying76 (by decide) (key := .string ⟨#[114, 101, 115, 111, 117, 114, 99, 101, 45, 99, 111, 110, 115, 116, 114, 97, 105, 110, 116]⟩) (val := .agg #[.string ⟨#[119, 97, 105, 116]⟩]) (WideMaps.keyOf_string_mk Tryz.underlying9 (by decide)) (condR_mk _)
  have hm14 : CB w.heap.size w14 := hm13.gr hgrow14
  have c14 : w14.cell? ⟨w.heap.size + 1, 0, none⟩ = some (.string ⟨#[99, 97, 110, 99, 101, 108]⟩) := hm14.c1
  obtain ⟨w15, hrun15, hown15, hgrow15⟩ := hown14.update lawS Tryz.underlying76 (by decide) (key := .string ⟨#[115, 101, 114, 118, 105, 99, 101, 45, 117, 110, 97, 118, 97, 105, 108, 97, 98, 108, 101]⟩) (val := .agg #[.string ⟨#[99, 97, 110, 99, 101, 108]⟩]) (WideMaps.keyOf_string_mk Tryz.underlying9 (by decide)) (condR_mk _)
  have hm15 : CB w.heap.size w15 := hm14.gr hgrow15
  have c15 : w15.cell? ⟨w.heap.size, 0, none⟩ = some (.string ⟨#[97, 117, 116, 104]⟩) := hm15.c0
  obtain ⟨w16, hrun16, hown16, hgrow16⟩ := hown15.update lawS Tryz.underlying76 (by decide) (key := .string ⟨#[115, 117, 98, 115, 99, 114, 105, 112, 116, 105, 111, 110, 45, 114, 101, 113, 117, 105, 114, 101, 100]⟩) (val := .agg #[.string ⟨#[97, 117, 116, 104]⟩]) (WideMaps.keyOf_string_mk Tryz.underlying9 (by decide)) (condR_mk _)
  have hm16 : CB w.heap.size w16 := hm15.gr hgrow16
  have c16 : w16.cell? ⟨w.heap.size + 3, 0, none⟩ = some (.string ⟨#[119, 97, 105, 116]⟩) := hm16.c3
  obtain ⟨w17, hrun17, hown17, hgrow17⟩ := hown16.update lawS Tryz.underlying76 (by decide) (key := .string ⟨#[117, 110, 101, 120, 112, 101, 99, 116, 101, 100, 45, 114, 101, 113, 117, 101, 115, 116]⟩) (val := .agg #[.string ⟨#[119, 97, 105, 116]⟩]) (WideMaps.keyOf_string_mk Tryz.underlying9 (by decide)) (condR_mk _)
  have hm17 : CB w.heap.size w17 := hm16.gr hgrow17
  have c17 : w17.cell? ⟨w.heap.size + 1, 0, none⟩ = some (.string ⟨#[99, 97, 110, 99, 101, 108]⟩) := hm17.c1
  obtain ⟨w18, hrun18, hown18, hgrow18⟩ := hown17.update lawS Tryz.underlying76 (by decide) (key := .string ⟨#[117, 110, 100, 101, 102, 105, 110, 101, 100, 45, 99, 111, 110, 100, 105, 116, 105, 111, 110]⟩) (val := .agg #[.string ⟨#[99, 97, 110, 99, 101, 108]⟩]) (WideMaps.keyOf_string_mk Tryz.underlying9 (by decide)) (condR_mk _)
  have hm18 : CB w.heap.size w18 := hm17.gr hgrow18
  have HFIN : Hid (CmP w (.returned (.map (some (w.heap.size + 4)))) w18) := by
    refine ⟨_, rfl, hown18, ?_⟩
    have b0 := HB0
    have b1 := below_grown b0 b0.size hgrow1 (by omega)
    have b2 := below_grown b1 b1.size hgrow2 (by omega)
    have b3 := below_grown b2 b2.size hgrow3 (by omega)
    have b4 := below_grown b3 b3.size hgrow4 (by omega)
    have b5 := below_grown b4 b4.size hgrow5 (by omega)
    have b6 := below_grown b5 b5.size hgrow6 (by omega)
    have b7 := below_grown b6 b6.size hgrow7 (by omega)
    have b8 := below_grown b7 b7.size hgrow8 (by omega)
    have b9 := below_grown b8 b8.size hgrow9 (by omega)
    have b10 := below_grown b9 b9.size hgrow10 (by omega)
    have b11 := below_grown b10 b10.size hgrow11 (by omega)
    have b12 := below_grown b11 b11.size hgrow12 (by omega)
    have b13 := below_grown b12 b12.size hgrow13 (by omega)
    have b14 := below_grown b13 b13.size hgrow14 (by omega)
    have b15 := below_grown b14 b14.size hgrow15 (by omega)
    have b16 := below_grown b15 b15.size hgrow16 (by omega)
    have b17 := below_grown b16 b16.size hgrow17 (by omega)
    have b18 := below_grown b17 b17.size hgrow18 (by omega)
    exact b18
  clear hown0 hown1 hown2 hown3 hown4 hown5 hown6 hown7 hown8 hown9 hown10 hown11 hown12 hown13 hown14 hown15 hown16 hown17 hown18 hgrow1 hgrow2 hgrow3 hgrow4 hgrow5 hgrow6 hgrow7 hgrow8 hgrow9 hgrow10 hgrow11 hgrow12 hgrow13 hgrow14 hgrow15 hgrow16 hgrow17 hgrow18 hm0 hm1 hm2 hm3 hm4 hm5 hm6 hm7 hm8 hm9 hm10 hm11 hm12 hm13 hm14 hm15 hm16 hm17 hm18 HB0
  unfold W4 at hrun1 c0
  clear hsz
  go_enter Tryz.func54, Tryz.ntmps54
  go_wp2_with fail
  go_ret
  exact HFIN.out
/-! ### What looks into it -/
def cndB (c ty : ByteArray) : Bool := if eqb ty tErr = true then isCond c else eqb c E0
set_option maxRecDepth 100000 in
set_option maxHeartbeats 4000000 in
theorem hasCond_any (kd : Int) (ty fn fd fr tn td tr id sh st bd cd : ByteArray) (aL : Option Addr) (nL cL : Nat) (w : World) (hc : cd.size ≤ 1048576) :
    Calls Tryz.prog 25 #[.agg #[.int .i64 kd, .string ty, .string fn, .string fd, .string fr, .string tn, .string td, .string tr, .string id, .string sh, .string st, .string bd, .slice aL nL cL, .string cd]] w fun e w' => e = .returned (.bool (cndB cd ty)) ∧ Below w.heap.size w w' := by
  have HB0 : Hid (Below w.heap.size w (w.alloc (.cells #[.int .i64 kd, .string ty, .string fn, .string fd, .string fr, .string tn, .string td, .string tr, .string id, .string sh, .string st, .string bd, .slice aL nL cL, .string cd] 26))) := st_box w _ _
  unfold cndB
  by_cases h0 : ty.data.toList = [101, 114, 114, 111, 114]
  · obtain rfl : ty = ⟨#[101, 114, 114, 111, 114]⟩ := By.bytes_ext h0
    rw [if_pos (show eqb ⟨#[101, 114, 114, 111, 114]⟩ tErr = true from eqb_self _)]
    clear h0
    have HX := Lib.hid (box_new w #[.int .i64 kd, .string ⟨#[101, 114, 114, 111, 114]⟩, .string fn, .string fd, .string fr, .string tn, .string td, .string tr, .string id, .string sh, .string st, .string bd, .slice aL nL cL, .string cd] 26)
    have x13 : (w.alloc (.cells #[.int .i64 kd, .string ⟨#[101, 114, 114, 111, 114]⟩, .string fn, .string fd, .string fr, .string tn, .string td, .string tr, .string id, .string sh, .string st, .string bd, .slice aL nL cL, .string cd] 26)).cell? ⟨w.heap.size, 13, none⟩ = some (.string cd) := by rw [Lib.cell_of_heap HX.out]; rfl
    go_enter Tryz.func25, Tryz.ntmps25
    go_wp2_with fail
    have hzW : w.heap.size < (w.alloc (.cells #[.int .i64 kd, .string ⟨#[101, 114, 114, 111, 114]⟩, .string fn, .string fd, .string fr, .string tn, .string td, .string tr, .string id, .string sh, .string st, .string bd, .slice aL nL cL, .string cd] 26)).heap.size := by simp
    generalize w.alloc (.cells #[.int .i64 kd, .string ⟨#[101, 114, 114, 111, 114]⟩, .string fn, .string fd, .string fr, .string tn, .string td, .string tr, .string id, .string sh, .string st, .string bd, .slice aL nL cL, .string cd] 26) = W at HB0 HX x13 hzW ⊢
    go_region_with (first
      | (go_at_call 54; (refine (conditions_any _).mono ?_; rintro r w1 ⟨b, rfl, hm, hb⟩; have hb0 : Below w.heap.size w W := HB0.out; have hb9 : Below w.heap.size w w1 := (by first | with_reducible exact rg_a hb0 hb | with_reducible exact rg_b hb0 hb); have HB1 := Lib.hid hb9; clear hb0 hb9; have y13 : w1.cell? ⟨w.heap.size, 13, none⟩ = some (.string cd) := (by first | with_reducible exact rg_ca x13 hb | with_reducible exact rg_cb x13 hb); (first | (with_reducible have t9 := rg_t hb; obtain ⟨t0, f0⟩ := t9) | skip); obtain ⟨s, hlk, hsk⟩ := hm.look cd hc; have hlk0 := hlk w1 (Below.refl _ _); have hlk1 := fun o => hlk (w1.alloc o) ((Below.refl _ w1).alloc (Nat.le_refl _) o); have hz1 : w.heap.size < w1.heap.size := World.block_lt_of_cell? _ _ y13; clear hb hm hsk hlk)))
    all_goals
      go_wp2_with fail
      go_ret
      first | exact ⟨rfl, HB1.out.setCell (by have := HB0.out.size; show w.heap.size ≤ _; omega) _⟩ | exact ⟨rfl, (HB1.out.alloc HB1.out.size _).setCell (by have := HB1.out.size; show w.heap.size ≤ _; omega) _⟩ | exact ⟨rfl, HB1.out.alloc HB1.out.size _⟩
  · obtain ⟨n0, m0⟩ := lit_ne h0
    rw [if_neg (by rw [show eqb ty tErr = false from eqb_lit h0]; simp), eqb_E0]
    clear h0
    generalize hb : cd.toList.isEmpty = b2
    cases b2 <;>
    · go_enter Tryz.func25, Tryz.ntmps25
      go_wp2_with fail
      go_ret
      exact ⟨rfl, HB0.out⟩
end Go.Proofs.YtccpdfcmhggleaaGreatDoor
