/- Contracts: codes and items of package legacy's note reader. Conditions: those of each theorem's head. -/
import Derived.Test.YtclkehfnakhljaaDoorXa
import Derived.Deep.RegionLaw
import Derived.Test.YtclkehfnakhljaaDoorAe
namespace Go.Proofs.YtclkehfnakhljaaDoor.T
open Go.RowKit Go.Lib

theorem nR_ne : 78 ≠ 5 := by decide
def cdsV (l : List Int) : List Value := l.map fun c => .int .i64 c
theorem cdsV_len (l : List Int) : (cdsV l).length = l.length := by simp [cdsV]
theorem cell_al {w : World} {p : Addr} {v : Value} (h : w.cell? p = some v) (o : Obj) : (w.alloc o).cell? p = some v := by
  have hlt := World.block_lt_of_cell? _ _ h
  exact (((Below.refl _ w).alloc (Nat.le_refl _) o).cell hlt).trans h
theorem rdCds_two : ∀ (f g : Nat) (l : List UInt8), l.length ≤ f → l.length ≤ g → rdCds f l = rdCds g l
  | 0, g, l, h, _ => by
    obtain rfl : l = [] := List.length_eq_zero_iff.1 (by omega)
    cases g <;> simp [rdCds]
  | f + 1, 0, l, _, h => by
    obtain rfl : l = [] := List.length_eq_zero_iff.1 (by omega)
    simp [rdCds]
  | f + 1, g + 1, l, h, k => by
    unfold rdCds
    by_cases e : l = []
    · rw [if_pos e, if_pos e]
    · have : l.length ≠ 0 := fun c => e (List.length_eq_zero_iff.1 c)
      rw [if_neg e, if_neg e, rdCds_two f g (l.drop 2) (by rw [List.length_drop]; omega) (by rw [List.length_drop]; omega)]
theorem rdCds_nil : rdCds ([] : List UInt8).length [] = [] := rfl
theorem rdCds_next {m : List UInt8} (h : m ≠ []) : rdCds m.length m = rnum 2 m :: rdCds (m.drop 2).length (m.drop 2) := by
  obtain ⟨c, t, rfl⟩ := List.exists_cons_of_ne_nil h
  show rdCds (t.length + 1) (c :: t) = _
  rw [rdCds, if_neg h, rdCds_two t.length _ ((c :: t).drop 2) (by rw [List.length_drop, List.length_cons]; omega) (Nat.le_refl _)]
theorem ne_mk {m : List UInt8} (h : m ≠ []) : (mk m).toList.isEmpty = false := By.nonempty fun e => h (List.length_eq_zero_iff.1 (by rwa [mk_size] at e))
section
variable {N P : Nat} {w w' w1 w2 : World} {l m : List UInt8} {k c s e t : Int} {a x d : ByteArray} {o : Bool} {vi vz : Value}
theorem Bt.grown (h : Bt N P w w1) {row : Option Nat} (hg : w1.grownBy w2 row) (hr : ∀ b, row = some b → N ≤ b) (hN : N ≤ w1.heap.size) : Bt N P w w2 :=
  h.trans ⟨hg.os, hg.tape, hg.output, hg.size, fun b hb _ => hg.block b (Nat.lt_of_lt_of_le hb hN) (fun e => by have := hr b e.symm; omega)⟩
theorem Rr.apart {T : TypeId} {r : List Value} (h : Rr P T r w l) {N n z : Nat} {E : TypeId} {v : Value} {xs : List Value} (ho : w.ownsRow N E z v n xs) (hT : T ≠ E) {b : Nat} (hb : v.ownBlock = some b) : b ≠ P := fun q => by
  obtain ⟨_, cur, hc⟩ := own_heap ho hb
  have h2 : w.heap[P]? = _ := h
  rw [q, h2] at hc
  injection hc with hc
  injection hc with _ hc _
  exact hT hc
theorem Rr.cells (h : Rr P 78 (nR k a x d c s e t o vi vz) w l) :
    w.cell? ⟨P, 1, none⟩ = some (.int .i64 k) ∧ w.cell? ⟨P, 2, none⟩ = some (.string a) ∧ w.cell? ⟨P, 3, none⟩ = some (.string x) ∧ w.cell? ⟨P, 4, none⟩ = some (.string d) ∧ w.cell? ⟨P, 5, none⟩ = some (.int .i64 c) ∧ w.cell? ⟨P, 6, none⟩ = some (.int .i64 s) ∧ w.cell? ⟨P, 7, none⟩ = some (.int .i64 e) ∧ w.cell? ⟨P, 8, none⟩ = some (.int .i64 t) ∧ w.cell? ⟨P, 9, none⟩ = some (.bool o) ∧ w.cell? ⟨P, 10, none⟩ = some vi ∧ w.cell? ⟨P, 11, none⟩ = some vz := by
  refine ⟨?_, ?_, ?_, ?_, ?_, ?_, ?_, ?_, ?_, ?_, ?_⟩ <;> (rw [Lib.cell_of_heap h]; rfl)
/-- What codes leaves. -/
def CdP (P : Nat) (k : Int) (a x d : ByteArray) (c s e t : Int) (o : Bool) (vi : Value) (l : List UInt8) (w : World) (e' : Ending) (w' : World) : Prop :=
  e' = .returned (.tuple #[]) ∧ Bt w.heap.size P w w' ∧ ∃ az cz, Rr P 78 (nR k a x d c s e t o vi (.slice az (rdCds l.length l).length cz)) w' [] ∧ w'.ownsRow w.heap.size 3 1 (.slice az (rdCds l.length l).length cz) (rdCds l.length l).length (cdsV (rdCds l.length l))
set_option maxRecDepth 100000 in
set_option maxHeartbeats 4000000 in
theorem gcodes_any (h : Rr P 78 (nR k a x d c s e t o vi (.slice none 0 0)) w l) (hl : l.length ≤ 1000000) :
    Calls Tryd.prog 62 #[.pointer (some ⟨P, 0, none⟩)] w (CdP P k a x d c s e t o vi l w) := by
  have H := Lib.hid h
  obtain ⟨i0, hi0, hz0, hz1, hz2⟩ := info_parts intInfo
  have HPOST : Hid (∀ W done az cz, rdCds l.length l = done → Bt w.heap.size P w W → Rr P 78 (nR k a x d c s e t o vi (.slice az done.length cz)) W [] → W.ownsRow w.heap.size 3 1 (.slice az done.length cz) done.length (cdsV done) → CdP P k a x d c s e t o vi l w (.returned (.tuple #[])) W) := fun W done az cz e h1 h2 h3 => by
    subst e
    exact ⟨rfl, h1, az, cz, h2, h3⟩
  generalize hq : CdP P k a x d c s e t o vi l w = POST at HPOST ⊢
  clear hq h
  have H0 : Hid (w.ownsRow w.heap.size 3 1 (.slice none 0 0) 0 (cdsV [])) := World.ownsRow_nil _ _ _ _
  have HB0 : Hid (Bt w.heap.size P w w) := Bt.refl _ _ _
  have HLE := Lib.hid hl
  clear hl
  go_enter Tryd.func62, Tryd.ntmps62
  go_wp2_with fail
  go_loopg [2] l.length (fun g _ wr => ∃ (m : List UInt8) (done : List Int) (az : Option Addr) (cz : Nat), g = m.length ∧ Hid (m.length ≤ 1000000 ∧ m.length + done.length ≤ l.length) ∧ Hid (rdCds l.length l = done ++ rdCds m.length m) ∧ Hid (Rr P 78 (nR k a x d c s e t o vi (.slice az done.length cz)) wr m) ∧ Hid (wr.ownsRow w.heap.size 3 1 (.slice az done.length cz) done.length (cdsV done)) ∧ Hid (Bt w.heap.size P w wr))
  case atStart => exact ⟨l, [], none, 0, rfl, ⟨HLE.out, by simp⟩, rfl, H.out, H0.out, HB0.out⟩
  case round =>
    clear H H0 HB0
    obtain ⟨m, done, az, cz, rfl, HM, HE, HR, HO, HB⟩ := hrel
    by_cases hm : m = []
    · subst hm
      have c0 : wr.cell? ⟨P, 0, none⟩ = some (.string ⟨#[]⟩) := HR.out.cell
      have HE2 : Hid (rdCds l.length l = done) := by have := HE.out; rw [rdCds_nil, List.append_nil] at this; exact this
      go_wp2_with fail
      refine bodyPost_end (results_none rfl _ _ _) rfl ?_
      exact HPOST.out _ done az cz HE2.out HB.out HR.out HO.out
    · have c0 := HR.out.cell
      have hne := ne_mk hm
      have HN := Lib.hid (rdCds_next hm)
      have HS := Lib.hid (gshort_any (HR.out.below (Below.refl _ wr).drew) HM.out.1)
      have HLT : Hid ((m.drop 2).length < m.length) := by have : m.length ≠ 0 := fun q => hm (List.length_eq_zero_iff.1 q); show _ < _; rw [List.length_drop]; omega
      generalize rnum 2 m = V at HN HS
      generalize m.drop 2 = m2 at HN HS HLT
      obtain ⟨-, -, -, -, -, -, -, -, -, -, c11⟩ := HR.out.cells
      have hPl := HR.out.lt
      have HNW : Hid (w.heap.size ≤ wr.heap.size) := HB.out.size
      have hdl : done.length ≤ l.length := by have := HM.out.2; omega
      have hll := HLE.out
      clear hm
      go_wp2_with fail
      go_region_law (first
        | (refine step_append_lies _ (by rfl) _ _ _ (by rfl) w.heap.size 3 i0 _ 1 8 Tryd.underlying23 hi0 hz0 hz1 hz2 rfl (by omega) (.slice az done.length cz) done.length (cdsV done) (by rfl) (own_below HO3.out ((Below.refl _ w3).alloc (Nat.le_refl _) _)) ⟨w3.heap.size, 0, none⟩ 1 1 [.int .i64 V] (by rfl) (by rfl) (World.news_of_block (cs := #[.int .i64 V]) (t := 3) (fr := (0, 0)) (heap_alloc_new w3 _)) (by simp [Value.oneCell']) (by omega) (by unfold maxLen; omega) (by omega) ?hb (w3.heap.size + 1) (by simp) ?_; (case hb => (have := HSZ3.out; simp; omega)); intro g cap w4 hown hgrow hat hlt4; have HR4 : Hid (Rr P 78 (nR k a x d c s e t o vi (.slice az done.length cz)) w4 m2) := ((hgrow.block P (by have := HR3.out.lt; simp; omega) (fun q => HR3.out.apart HO3.out (by decide) q.symm rfl)).trans ((Below.heap_alloc _ _ _ HR3.out.lt).trans HR3.out)); have e4 := HR4.out.cells.2.2.2.2.2.2.2.2.2.2; have f4 := HR4.out.free 11)
        | (go_simp; go_at_call 60; (with_reducible refine HS.out.mono ?_); rintro e w3 ⟨rfl, hb3, hr3⟩; have HR3 := Lib.hid hr3; have HO3 : Hid (w3.ownsRow w.heap.size 3 1 (.slice az done.length cz) done.length (cdsV done)) := (own_keep HO.out (fun b hb => hb3.block b (by obtain ⟨_, cur, hc⟩ := own_heap HO.out hb; exact heap_lt hc) (HR.out.apart HO.out (by decide) hb))); have HSZ3 : Hid (w.heap.size ≤ w3.heap.size) := (Nat.le_trans HNW.out hb3.size); have HB3 := Lib.hid (HB.out.trans ((Bt.mono (Bt.trans ((Bt.refl wr.heap.size P wr).below (Below.refl _ wr).drew (Nat.le_refl _)) hb3)) HNW.out)); have e3 := HR3.out.cells.2.2.2.2.2.2.2.2.2.2; have e3b := cell_al e3 (.cells #[.int .i64 V] 3); have p3 := HR3.out.lt))
      all_goals
        have HR5 := Lib.hid (HR4.out.set 10 (.slice (some ⟨g, 0, none⟩) (done.length + 1) cap))
        have HO4 := Lib.hid hown
        have HB5 := Lib.hid (((HB3.out.below ((Below.refl _ w3).alloc (Nat.le_refl _) (.cells #[.int .i64 V] 3)) HSZ3.out).grown hgrow (fun b q => (own_heap HO3.out q).1) (by have := HSZ3.out; simp; omega)).set 11 (.slice (some ⟨g, 0, none⟩) (done.length + 1) cap))
        have HO5 : Hid ((w4.setCell ⟨P, 11, none⟩ (.slice (some ⟨g, 0, none⟩) (done.length + 1) cap)).ownsRow w.heap.size 3 1 (.slice (some ⟨g, 0, none⟩) (done.length + 1) cap) (done.length + 1) (cdsV done ++ [.int .i64 V])) := own_keep HO4.out fun b hb => setCell_other (HR4.out.apart HO4.out (by decide) hb)
        clear c0 hne c11 e3 e3b e4 f4 hown hgrow hat hlt4 hb3 hr3 HR4 HO4
        go_wp2_with fail
        go_roundg m2.length
        case measure => exact HLT.out
        case rel => exact ⟨m2, done ++ [V], some ⟨g, 0, none⟩, cap, rfl, ⟨by have := HLT.out; have := HM.out.1; omega, by have := HM.out.2; have := HLT.out; rw [List.length_append]; simp; omega⟩, by rw [HE.out, HN.out, List.append_assoc]; rfl, by rw [List.length_append]; exact HR5.out, by rw [List.length_append, cdsV, List.map_append]; exact HO5.out, HB5.out⟩
end
end Go.Proofs.YtclkehfnakhljaaDoor.T
