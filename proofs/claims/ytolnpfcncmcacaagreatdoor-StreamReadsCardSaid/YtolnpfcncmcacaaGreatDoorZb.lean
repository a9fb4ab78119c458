/- The contract of stream.conditionOf: the word for an error. Condition: the error is a number of 64 bits. -/
import Derived.Test.YtolnpfcncmcacaaGreatDoorZa
import Derived.Maps.Own
import Derived.Maps.OwnSet
import Derived.Maps.Views
set_option maxRecDepth 100000
set_option maxHeartbeats 4000000
namespace Go.Proofs.YtolnpfcncmcacaaGreatDoor
open Go.RowKit Go.Lib Go.Shelf Tg Sn Go.Maps
def condR {H : Type} : Value → Option (DataW H × List MemPlace)
  | .agg cs => match cs.toList with
    | [.string s] => some (.lit (.string s.data.toList), [])
    | _ => none
  | _ => none
theorem condR_mk {H : Type} (s : ByteArray) : condR (H := H) (.agg #[.string s]) = some (.lit (.string s.data.toList), []) := rfl
theorem condR_inv {H : Type} {v : Value} {z : DataW H × List MemPlace} (h : condR v = some z) : ∃ s : ByteArray, v = .agg #[.string s] ∧ z.1 = .lit (.string s.data.toList) := by
  unfold condR at h
  split at h
  · rename_i cs
    split at h
    · rename_i s hs
      cases h
      exact ⟨s, by rw [show cs = #[.string s] from by apply Array.toList_inj.1; exact hs], rfl⟩
    · cases h
  · cases h
theorem law34 : Keyed Tryz.prog 34 := int_keyed Tryz.underlying34
theorem zero146 (w : World) : (zeroValue 146).run Tryz.prog w = .ok (.agg #[.string ⟨#[]⟩]) w := by kernel_rfl
def c60 : ByteArray := ⟨#[110, 111, 116, 45, 119, 101, 108, 108, 45, 102, 111, 114, 109, 101, 100]⟩
def c61 : ByteArray := ⟨#[114, 101, 115, 116, 114, 105, 99, 116, 101, 100, 45, 120, 109, 108]⟩
def c62 : ByteArray := ⟨#[112, 111, 108, 105, 99, 121, 45, 118, 105, 111, 108, 97, 116, 105, 111, 110]⟩
def c63 : ByteArray := ⟨#[117, 110, 115, 117, 112, 112, 111, 114, 116, 101, 100, 45, 101, 110, 99, 111, 100, 105, 110, 103]⟩
def cXX : ByteArray := ⟨#[117, 110, 100, 101, 102, 105, 110, 101, 100, 45, 99, 111, 110, 100, 105, 116, 105, 111, 110]⟩
def condOf (er : Int) : ByteArray := if er = 60 then c60 else if er = 61 then c61 else if er = 62 then c62 else if er = 63 then c63 else cXX
theorem condOf_size (er : Int) : (condOf er).size ≤ 20 := by
  unfold condOf
  split
  · decide
  · split
    · decide
    · split
      · decide
      · split <;> decide
def kE (n : Int) : Lit := .int .i64 n
def kD (s : ByteArray) : DataW Unit := .lit (.string s.data.toList)
def dM : DataW Unit := ((((DataW.map []).put (kE 60) (kD c60)).put (kE 61) (kD c61)).put (kE 62) (kD c62)).put (kE 63) (kD c63)
theorem kE_ne {a b : Int} (h : a ≠ b) : kE a ≠ kE b := fun e => h (by unfold kE at e; cases e; rfl)
theorem kE_key (n : Int) : WideAt.IsKeyLit (kE n) := by trivial
theorem dM_look (er : Int) (z : DataW Unit) : (Maps.has dM (kE er) = true → dM.atKey (kE er) z = kD (condOf er)) ∧ (Maps.has dM (kE er) = false → condOf er = cXX) := by
  unfold dM condOf
  by_cases h3 : er = 63
  · subst h3
    exact ⟨fun _ => by rw [Maps.atKey_put_same (by (repeat apply Maps.IsMap.put); exact Maps.isMap_empty) (kE_key _)]; rfl, fun h => by rw [Maps.has_put_same (by (repeat apply Maps.IsMap.put); exact Maps.isMap_empty) (kE_key _)] at h; cases h⟩
  rw [Maps.atKey_put_other (kE_ne h3), Maps.has_put_other (kE_ne h3), if_neg h3]
  by_cases h2 : er = 62
  · subst h2
    exact ⟨fun _ => by rw [Maps.atKey_put_same (by (repeat apply Maps.IsMap.put); exact Maps.isMap_empty) (kE_key _)]; rfl, fun h => by rw [Maps.has_put_same (by (repeat apply Maps.IsMap.put); exact Maps.isMap_empty) (kE_key _)] at h; cases h⟩
  rw [Maps.atKey_put_other (kE_ne h2), Maps.has_put_other (kE_ne h2), if_neg h2]
  by_cases h1 : er = 61
  · subst h1
    exact ⟨fun _ => by rw [Maps.atKey_put_same (by (repeat apply Maps.IsMap.put); exact Maps.isMap_empty) (kE_key _)]; rfl, fun h => by rw [Maps.has_put_same (by (repeat apply Maps.IsMap.put); exact Maps.isMap_empty) (kE_key _)] at h; cases h⟩
  rw [Maps.atKey_put_other (kE_ne h1), Maps.has_put_other (kE_ne h1), if_neg h1]
  by_cases h0 : er = 60
  · subst h0
    exact ⟨fun _ => by rw [Maps.atKey_put_same Maps.isMap_empty (kE_key _)]; rfl, fun h => by rw [Maps.has_put_same Maps.isMap_empty (kE_key _)] at h; cases h⟩
  rw [Maps.atKey_put_other (kE_ne h0), Maps.has_put_other (kE_ne h0), if_neg h0]
  exact ⟨fun h => absurd h (by simp [Maps.has_eq]), fun _ => rfl⟩
theorem below_grown {B b : Nat} {w w1 w2 : World} (h : Below B w w1) (hB : B ≤ w1.heap.size) (hg : w1.grownBy w2 (some b)) (hb : B ≤ b) : Below B w w2 := h.grown hg hB fun _ e => by cases e; exact hb
theorem kD_inj {s t : ByteArray} (h : kD s = kD t) : s = t := by
  unfold kD at h
  injection h with h
  injection h with h
  rw [← Sn.mk_of s, h, Sn.mk_of]
theorem conditionOf_any (er : Int) (w : World) (hw : (Lit.int .i64 er).wf = true) :
    Calls Tryz.prog 61 #[.int .i64 er] w fun e w' => e = .returned (.string (condOf er)) ∧ Below w.heap.size w w' := by
  have HKE : Hid (keyOf Tryz.prog 34 (.int .i64 er) = some (kE er)) := keyOf_int_mk Tryz.underlying34 hw
  have hmm := @run_makeMap Tryz.prog
  have hown := World.ownsMap_made (H := Unit) w Tryz.prog 34 condR
  have HB0 : Hid (Below w.heap.size w (w.alloc (.map #[] 0))) := (Below.refl _ w).alloc (Nat.le_refl _) _
  obtain ⟨w1, hrun1, hown1, hgrow1⟩ := hown.update law34 Tryz.underlying147 (by decide) (keyOf_int_mk Tryz.underlying34 (a := 60) (by decide)) (condR_mk c60)
  obtain ⟨w2, hrun2, hown2, hgrow2⟩ := hown1.update law34 Tryz.underlying147 (by decide) (keyOf_int_mk Tryz.underlying34 (a := 61) (by decide)) (condR_mk c61)
  obtain ⟨w3, hrun3, hown3, hgrow3⟩ := hown2.update law34 Tryz.underlying147 (by decide) (keyOf_int_mk Tryz.underlying34 (a := 62) (by decide)) (condR_mk c62)
  obtain ⟨w4, hrun4, hown4, hgrow4⟩ := hown3.update law34 Tryz.underlying147 (by decide) (keyOf_int_mk Tryz.underlying34 (a := 63) (by decide)) (condR_mk c63)
  have HB4 : Hid (Below w.heap.size w w4) := by
    have b1 := below_grown HB0.out HB0.out.size hgrow1 (Nat.le_refl _)
    have b2 := below_grown b1 b1.size hgrow2 (Nat.le_refl _)
    have b3 := below_grown b2 b2.size hgrow3 (Nat.le_refl _)
    exact below_grown b3 b3.size hgrow4 (Nat.le_refl _)
  obtain ⟨v, ps, hlook, hv⟩ := hown4.look_ok law34 Tryz.underlying147 (zero146 w4) (condR_mk ⟨#[]⟩) HKE.out
  obtain ⟨s, rfl, hs⟩ := condR_inv hv
  have hkv : Maps.has dM (kE er) = true → s = condOf er := fun h => kD_inj (hs.symm.trans ((dM_look er _).1 h))
  have hkn := (dM_look er (kD ⟨#[]⟩)).2
  have hlook2 : (Instr.lookup 147 (.map (some w.heap.size)) (.int .i64 er) true).run Tryz.prog w4 = .ok (.tuple #[.agg #[.string s], .bool (Maps.has dM (kE er))]) w4 := hlook
  clear hlook
  generalize Maps.has dM (kE er) = b at hlook2 hkv hkn
  clear hv hs hown hown1 hown2 hown3 hown4 hgrow1 hgrow2 hgrow3 hgrow4 HB0
  unfold c60 at hrun1
  unfold c61 at hrun2
  unfold c62 at hrun3
  unfold c63 at hrun4
  cases b with
  | true =>
    have HE := Lib.hid (hkv rfl)
    clear hkv hkn
    go_enter Tryz.func61, Tryz.ntmps61
    go_wp2_with fail
    go_ret
    exact ⟨by rw [HE.out]; rfl, HB4.out.alloc HB4.out.size _⟩
  | false =>
    have HE := Lib.hid (hkn rfl)
    clear hkv hkn
    go_enter Tryz.func61, Tryz.ntmps61
    go_wp2_with fail
    go_ret
    exact ⟨by rw [HE.out]; rfl, HB4.out.alloc HB4.out.size _⟩
end Go.Proofs.YtolnpfcncmcacaaGreatDoor
