/- Contracts of the laws' small, header and shake. No condition. -/
import Derived.Test.YtolnpfcncmcacaaGreatDoorZj
import Derived.Test.YtolnpfcncmcacaaGreatDoorWt
set_option maxRecDepth 100000
set_option maxHeartbeats 4000000
namespace Go.Proofs.YtolnpfcncmcacaaGreatDoor
open Go.RowKit Go.Lib Go.Shelf Tg Sn
abbrev Et := Int × El × Int
def Svn (w : World) (b o : Nat) (v0 v1 v2 v3 v4 v5 v6 : Value) : Prop :=
  w.cell? ⟨b, o, none⟩ = some v0 ∧ w.cell? ⟨b, o + 1, none⟩ = some v1 ∧ w.cell? ⟨b, o + 2, none⟩ = some v2 ∧ w.cell? ⟨b, o + 3, none⟩ = some v3 ∧ w.cell? ⟨b, o + 4, none⟩ = some v4 ∧ w.cell? ⟨b, o + 5, none⟩ = some v5 ∧ w.cell? ⟨b, o + 6, none⟩ = some v6
def EtIn (B : Nat) (w : World) (a : Option Addr) (l : List Et) : Prop :=
  ∀ i (h : i < l.length), ∃ b o aA cA aK cK, a = some ⟨b, o, none⟩ ∧ b < B ∧ Svn w b (o + i * 7) (.int .i64 l[i].1) (.string l[i].2.1.sp) (.string l[i].2.1.nm) (.slice aA l[i].2.1.atr.length cA) (.string l[i].2.1.tx) (.slice aK l[i].2.1.ks.length cK) (.int .i64 l[i].2.2) ∧
    In B w l[i].2.1 (.agg #[.string l[i].2.1.sp, .string l[i].2.1.nm, .slice aA l[i].2.1.atr.length cA, .string l[i].2.1.tx, .slice aK l[i].2.1.ks.length cK]) ∧ (Lit.int .i64 l[i].2.2).wf = true
theorem Svn.below {B : Nat} {w w' : World} (h : Below B w w') {b o : Nat} (hb : b < B) {v0 v1 v2 v3 v4 v5 v6 : Value} (f : Svn w b o v0 v1 v2 v3 v4 v5 v6) : Svn w' b o v0 v1 v2 v3 v4 v5 v6 :=
  ⟨(h.cell (p := ⟨b, o, none⟩) hb).trans f.1, (h.cell (p := ⟨b, o + 1, none⟩) hb).trans f.2.1, (h.cell (p := ⟨b, o + 2, none⟩) hb).trans f.2.2.1, (h.cell (p := ⟨b, o + 3, none⟩) hb).trans f.2.2.2.1, (h.cell (p := ⟨b, o + 4, none⟩) hb).trans f.2.2.2.2.1, (h.cell (p := ⟨b, o + 5, none⟩) hb).trans f.2.2.2.2.2.1, (h.cell (p := ⟨b, o + 6, none⟩) hb).trans f.2.2.2.2.2.2⟩
theorem EtIn.below {B : Nat} {w w' : World} {a : Option Addr} {l : List Et} (h : EtIn B w a l) (hb : Below B w w') : EtIn B w' a l := by
  intro i hi
  obtain ⟨b, o, a1, c1, a2, c2, ha, hlt, hf, hin, hw⟩ := h i hi
  exact ⟨b, o, a1, c1, a2, c2, ha, hlt, hf.below hb hlt, hin.stay hb, hw⟩
def els (l : List Et) : List El := l.map fun x => x.2.1
theorem els_take {l : List Et} {k : Nat} (h : k < l.length) : wts (els (l.take (k + 1))) = wts (els (l.take k)) + wt l[k].2.1 := by
  have h2 : k < (els l).length := by simpa [els] using h
  have e : ∀ j, els (l.take j) = (els l).take j := fun j => by simp [els, List.map_take]
  rw [e, e, wts_take h2]
  simp [els]
def SmP (l : List Et) (w : World) (r : Ending) (w' : World) : Prop := (∃ v : Bool, r = .returned (.bool v) ∧ (v = true → l.length ≤ 40 ∧ wts (els l) ≤ 6000)) ∧ Below w.heap.size w w'
theorem small8_any (l : List Et) (a : Option Addr) (lc : Nat) (w : World) (hl : l.length ≤ maxLen) (hk : EtIn w.heap.size w a l) :
    Calls Tryz.prog 14 #[.slice a l.length lc] w (SmP l w) := by
  have HKS := Lib.hid hk
  have hln : l.length ≤ 9223372036854775807 := hl
  have HW0 : Hid (Below w.heap.size w w) := Below.refl _ _
  clear hk hl
  go_enter Tryz.func14, Tryz.ntmps14
  go_wp2_with fail
  go_loopw [3, 4] (fun s i wr => ∃ (j : Nat) (m : Int), i = .int .i64 j ∧ s = .int .i64 m ∧ j ≤ l.length ∧ j ≤ 41 ∧ 0 ≤ m ∧ m ≤ 1125899908000000 ∧ Hid (m ≤ 6000 → (wts (els (l.take j)) : Int) = m) ∧ Hid (Below w.heap.size w wr)) (fun _ i _ => l.length - (RowKit.intOf i).toNat)
  case atStart => exact ⟨0, 0, rfl, rfl, Nat.zero_le _, Nat.zero_le _, by decide, by decide, fun _ => by simp [els, wts], HW0.out⟩
  case round =>
    obtain ⟨j, m, rfl, rfl, hj, hj41, hm0, hm1, HM, HB⟩ := hrel
    by_cases hgo : j < l.length ∧ j ≤ 40 ∧ m ≤ 6000
    · obtain ⟨hjl, hj40, hm6⟩ := hgo
      obtain ⟨b, o, a1, c1, a2, c2, rfl, hb, hf7, hkin, _⟩ := (HKS.out.below HB.out) j hjl
      obtain ⟨y0, y1, y2, y3, y4, y5, y6⟩ := hf7
      have HC := Lib.hid (W8.weight_any l[j].2.1 0 w.heap.size _ _ hkin HB.out.size (by decide) (by decide))
      have HT := Lib.hid (els_take hjl)
      clear hkin hb
      go_wp2_with fail
      refine HC.out.mono ?_
      rintro r w2 ⟨⟨q, rfl, hq0, hq1, hq2⟩, hbb⟩
      have HB2 := Lib.hid (HB.out.trans (hbb.mono HB.out.size))
      have HM2 : Hid (m + q ≤ 6000 → (wts (els (l.take (j + 1))) : Int) = m + q) := by
        intro h
        have h1 := HM.out (by omega)
        have h2 := hq2 (by omega)
        have h3 := HT.out
        omega
      have hr1 : 0 ≤ m + q := by omega
      have hr2 : m + q ≤ 1125899908000000 := by omega
      clear hbb HC y0 y1 y2 y3 y4 y5 y6 HT HM hq2
      go_wp2_with fail
      go_roundw
      case rel => exact ⟨j + 1, m + q, by go_num, rfl, by omega, by omega, hr1, hr2, HM2.out, HB2.out⟩
      case measure => simp [RowKit.intOf]; omega
    · by_cases hlong : 40 < l.length
      · have t4 : decide ((l.length : Int) ≤ 40) = false := by rw [decide_eq_false_iff_not]; omega
        clear HM
        by_cases hjl : j < l.length
        · by_cases hj40 : j ≤ 40
          · have hm6 : 6000 < m := by
              rcases Int.lt_or_le 6000 m with h | h
              · exact h
              · exact absurd ⟨hjl, hj40, h⟩ hgo
            clear hgo
            go_wp2_with fail
            go_ret
            exact ⟨⟨false, rfl, fun h => by cases h⟩, HB.out⟩
          · clear hgo
            go_wp2_with fail
            go_ret
            exact ⟨⟨false, rfl, fun h => by cases h⟩, HB.out⟩
        · clear hgo
          go_wp2_with fail
          go_ret
          exact ⟨⟨false, rfl, fun h => by cases h⟩, HB.out⟩
      · have t4 : decide ((l.length : Int) ≤ 40) = true := by rw [decide_eq_true_iff]; omega
        have hl40 : l.length ≤ 40 := by omega
        by_cases hm6 : 6000 < m
        · have t5 : decide (m ≤ 6000) = false := by rw [decide_eq_false_iff_not]; omega
          clear hgo HM
          by_cases hjl : j < l.length
          · go_wp2_with fail
            go_ret
            exact ⟨⟨false, rfl, fun h => by cases h⟩, HB.out⟩
          · go_wp2_with fail
            go_ret
            exact ⟨⟨false, rfl, fun h => by cases h⟩, HB.out⟩
        · have t5 : decide (m ≤ 6000) = true := by rw [decide_eq_true_iff]; omega
          have hjl : ¬ j < l.length := fun h => hgo ⟨h, by omega, by omega⟩
          have HWS : Hid (wts (els l) ≤ 6000) := by
            have := HM.out (by omega)
            rw [List.take_of_length_le (by omega)] at this
            show _ ≤ _
            omega
          clear hgo HM
          go_wp2_with fail
          go_ret
          exact ⟨⟨true, rfl, fun _ => ⟨hl40, HWS.out⟩⟩, HB.out⟩
def HdrP (w : World) (r : Ending) (w' : World) : Prop := ∃ g : Nat, r = .returned (.agg #[.int .i64 1, .string ⟨#[104, 116, 116, 112, 58, 47, 47, 101, 116, 104, 101, 114, 120, 46, 106, 97, 98, 98, 101, 114, 46, 111, 114, 103, 47, 115, 116, 114, 101, 97, 109, 115]⟩, .string ⟨#[115, 116, 114, 101, 97, 109]⟩, .slice (some ⟨g, 0, none⟩) 1 1, .string ⟨#[]⟩, .slice none 0 0, .int .i64 0]) ∧ w.heap.size ≤ g ∧ w'.heap[g]? = some (.cells #[.string ⟨#[105, 100]⟩, .string ⟨#[51]⟩] 81 (0, 0)) ∧ Below w.heap.size w w'
theorem header_any (w : World) : Calls Tryz.prog 19 #[] w (HdrP w) := by
  have HB : Hid (Below w.heap.size w ((w.alloc (.cells #[.int .i64 1, .string ⟨#[104, 116, 116, 112, 58, 47, 47, 101, 116, 104, 101, 114, 120, 46, 106, 97, 98, 98, 101, 114, 46, 111, 114, 103, 47, 115, 116, 114, 101, 97, 109, 115]⟩, .string ⟨#[115, 116, 114, 101, 97, 109]⟩, .slice (some ⟨w.heap.size + 1, 0, none⟩) 1 1, .string ⟨#[]⟩, .slice none 0 0, .int .i64 0] 50)).alloc (.cells #[.string ⟨#[105, 100]⟩, .string ⟨#[51]⟩] 81))) := ((Below.refl _ w).alloc (Nat.le_refl _) _).alloc (by simp) _
  have HG : Hid (((w.alloc (.cells #[.int .i64 1, .string ⟨#[104, 116, 116, 112, 58, 47, 47, 101, 116, 104, 101, 114, 120, 46, 106, 97, 98, 98, 101, 114, 46, 111, 114, 103, 47, 115, 116, 114, 101, 97, 109, 115]⟩, .string ⟨#[115, 116, 114, 101, 97, 109]⟩, .slice (some ⟨w.heap.size + 1, 0, none⟩) 1 1, .string ⟨#[]⟩, .slice none 0 0, .int .i64 0] 50)).alloc (.cells #[.string ⟨#[105, 100]⟩, .string ⟨#[51]⟩] 81)).heap[w.heap.size + 1]? = some (.cells #[.string ⟨#[105, 100]⟩, .string ⟨#[51]⟩] 81 (0, 0))) := by
    have := box_new (w.alloc (.cells #[.int .i64 1, .string ⟨#[104, 116, 116, 112, 58, 47, 47, 101, 116, 104, 101, 114, 120, 46, 106, 97, 98, 98, 101, 114, 46, 111, 114, 103, 47, 115, 116, 114, 101, 97, 109, 115]⟩, .string ⟨#[115, 116, 114, 101, 97, 109]⟩, .slice (some ⟨w.heap.size + 1, 0, none⟩) 1 1, .string ⟨#[]⟩, .slice none 0 0, .int .i64 0] 50)) #[.string ⟨#[105, 100]⟩, .string ⟨#[51]⟩] 81
    show _ = _
    simpa using this
  go_enter Tryz.func19, Tryz.ntmps19
  go_wp2_with fail
  exact bodyPost_ret (v := .agg #[.int .i64 1, .string ⟨#[104, 116, 116, 112, 58, 47, 47, 101, 116, 104, 101, 114, 120, 46, 106, 97, 98, 98, 101, 114, 46, 111, 114, 103, 47, 115, 116, 114, 101, 97, 109, 115]⟩, .string ⟨#[115, 116, 114, 101, 97, 109]⟩, .slice (some ⟨w.heap.size + 1, 0, none⟩) 1 1, .string ⟨#[]⟩, .slice none 0 0, .int .i64 0]) (by simp [results, Tryz.results19, go_sem]) rfl ⟨w.heap.size + 1, rfl, Nat.le_succ _, HG.out, HB.out⟩
theorem shake_any (w : World) : Calls Tryz.prog 20 #[] w fun r w' => r = .returned (.agg #[.int .i64 2, .string ⟨#[106, 97, 98, 98, 101, 114, 58, 99, 111, 109, 112, 111, 110, 101, 110, 116, 58, 97, 99, 99, 101, 112, 116]⟩, .string ⟨#[104, 97, 110, 100, 115, 104, 97, 107, 101]⟩, .slice none 0 0, .string ⟨#[]⟩, .slice none 0 0, .int .i64 0]) ∧ Below w.heap.size w w' := by
  have HB : Hid (Below w.heap.size w (w.alloc (.cells #[.int .i64 2, .string ⟨#[106, 97, 98, 98, 101, 114, 58, 99, 111, 109, 112, 111, 110, 101, 110, 116, 58, 97, 99, 99, 101, 112, 116]⟩, .string ⟨#[104, 97, 110, 100, 115, 104, 97, 107, 101]⟩, .slice none 0 0, .string ⟨#[]⟩, .slice none 0 0, .int .i64 0] 50))) := (Below.refl _ w).alloc (Nat.le_refl _) _
  go_enter Tryz.func20, Tryz.ntmps20
  go_wp2_with fail
  exact bodyPost_ret (v := .agg #[.int .i64 2, .string ⟨#[106, 97, 98, 98, 101, 114, 58, 99, 111, 109, 112, 111, 110, 101, 110, 116, 58, 97, 99, 99, 101, 112, 116]⟩, .string ⟨#[104, 97, 110, 100, 115, 104, 97, 107, 101]⟩, .slice none 0 0, .string ⟨#[]⟩, .slice none 0 0, .int .i64 0]) (by simp [results, Tryz.results20, go_sem]) rfl ⟨rfl, HB.out⟩
end Go.Proofs.YtolnpfcncmcacaaGreatDoor
