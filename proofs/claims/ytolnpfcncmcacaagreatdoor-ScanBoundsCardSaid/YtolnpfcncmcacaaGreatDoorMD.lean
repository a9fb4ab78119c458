/- Layer 6 in one text: contracts of the scanner's readers: attributes, what is declared, beginnings. Conditions: those of each theorem's head. -/
import Derived.Test.YtolnpfcncmcacaaGreatDoorMC
import Derived.Maps.Own
import Derived.Maps.OwnOps
import Derived.Maps.Views
import Derived.Maps.OwnSet
import Derived.Deep.AppendLies
import Derived.Deep.RegionLaw

/- Contracts of scan.parts, declaredPrefix, (declared).find, countOthers, hasTwins: a name's prefix; what is declared; whether two attributes have one name. Condition: a name has at most 1048576 bytes. -/
namespace Go.Proofs.YtolnpfcncmcacaaGreatDoor
open Go.RowKit Go.Lib Go.Shelf Tg Sn

/-! ### A list of pairs of texts in memory -/
/-- Behind a lie the pairs l, in blocks of S. -/
def AtS (S : Nat → Prop) (w : World) (a : Option Addr) (l : List At) : Prop :=
  ∀ i (h : i < l.length), ∃ b o, a = some ⟨b, o, none⟩ ∧ S b ∧ w.cell? ⟨b, o + i * 2, none⟩ = some (.string l[i].1) ∧ w.cell? ⟨b, o + i * 2 + 1, none⟩ = some (.string l[i].2)
theorem AtS.weak {S S' : Nat → Prop} {w : World} {a : Option Addr} {l : List At} (h : AtS S w a l) (hs : ∀ b, b < w.heap.size → S b → S' b) : AtS S' w a l := fun i hi => by
  obtain ⟨b, o, ha, hS, h1, h2⟩ := h i hi
  exact ⟨b, o, ha, hs b (World.block_lt_of_cell? w _ h1) hS, h1, h2⟩
/-- What keeps the blocks of S keeps the pairs. -/
theorem AtS.keep {S : Nat → Prop} {w w' : World} {a : Option Addr} {l : List At} (h : AtS S w a l) (hk : ∀ b, S b → b < w.heap.size → w'.heap[b]? = w.heap[b]?) : AtS S w' a l := fun i hi => by
  obtain ⟨b, o, ha, hS, h1, h2⟩ := h i hi
  have hb := hk b hS (World.block_lt_of_cell? w _ h1)
  exact ⟨b, o, ha, hS, (World.cell?_of_block (a := ⟨b, o + i * 2, none⟩) hb).trans h1, (World.cell?_of_block (a := ⟨b, o + i * 2 + 1, none⟩) hb).trans h2⟩
theorem AtS.below {S : Nat → Prop} {w w' : World} {a : Option Addr} {l : List At} (h : AtS S w a l) (hb : Below w.heap.size w w') : AtS S w' a l := h.keep fun b _ hlt => hb.block b hlt
/-- All texts are of at most so many bytes. -/
def Fit (n : Nat) (l : List At) : Prop := ∀ a ∈ l, a.1.size ≤ n ∧ a.2.size ≤ n
def Any8 (_ : Nat) : Prop := True

/-! ### parts, declaredPrefix -/
theorem pre_none {l : B8} (h : cut1 58 l = none) : pre l = [] ∧ loc l = l := by unfold pre loc; rw [h]; exact ⟨rfl, rfl⟩
theorem pre_some {l x y : B8} (h : cut1 58 l = some (x, y)) : pre l = x ∧ loc l = y := by unfold pre loc; rw [h]; exact ⟨rfl, rfl⟩
set_option maxHeartbeats 1000000 in
theorem parts_any (s : ByteArray) (w : World) (hs : s.size ≤ 1048576) :
    Calls Tryz.prog 145 #[.string s] w fun e w' => e = .returned (.tuple #[.string (mk (pre s.data.toList)), .string (mk (loc s.data.toList))]) ∧ Below w.heap.size w w' := by
  rcases hc : cut1 58 s.data.toList with _ | ⟨x, y⟩
  · obtain ⟨e1, e2⟩ := pre_none hc
    have C := Lib.hid (cut_no s 58 w hs hc)
    rw [e1, e2, mk_of]
    clear e1 e2 hc
    go_enter Tryz.func145, Tryz.ntmps145
    go_wp2_with fail
    refine C.out.mono ?_
    rintro r w1 ⟨rfl, hb⟩
    have HB := Lib.hid hb
    clear hb
    go_wp2_with fail
    go_ret2
    exact ⟨rfl, HB.out⟩
  · obtain ⟨e1, e2⟩ := pre_some hc
    have C := Lib.hid (cut_yes s 58 w hs hc)
    rw [e1, e2]
    clear e1 e2 hc
    generalize mk x = X at C ⊢
    generalize mk y = Y at C ⊢
    go_enter Tryz.func145, Tryz.ntmps145
    go_wp2_with fail
    refine C.out.mono ?_
    rintro r w1 ⟨rfl, hb⟩
    have HB := Lib.hid hb
    clear hb
    go_wp2_with fail
    go_ret2
    exact ⟨rfl, HB.out⟩
theorem dpre_is : dpre xmlns = some [] := by unfold dpre; rw [if_pos rfl]
theorem dpre_no {l : B8} (h : l ≠ xmlns) (h2 : pre l ≠ xmlns) : dpre l = none := by
  unfold dpre
  rw [if_neg h]
  cases hc : cut1 58 l with
  | none => rfl
  | some p =>
    obtain ⟨x, y⟩ := p
    have := (pre_some hc).1
    simp only
    rw [if_neg (by rw [← this]; exact h2)]
theorem dpre_yes {l : B8} (h : l ≠ xmlns) (h2 : pre l = xmlns) : dpre l = some (loc l) := by
  unfold dpre
  rw [if_neg h]
  cases hc : cut1 58 l with
  | none => rw [(pre_none hc).1] at h2; cases h2
  | some p =>
    obtain ⟨x, y⟩ := p
    obtain ⟨e1, e2⟩ := pre_some hc
    simp only
    rw [if_pos (by rw [← e1]; exact h2), e2]
set_option maxHeartbeats 1000000 in
theorem dpre_any (s : ByteArray) (w : World) (hs : s.size ≤ 1048576) :
    Calls Tryz.prog 171 #[.string s] w fun e w' => e = .returned (.tuple #[.string (mk ((dpre s.data.toList).getD [])), .bool (dpre s.data.toList).isSome]) ∧ Below w.heap.size w w' := by
  have HW : Hid (Below w.heap.size w w) := Below.refl _ _
  by_cases h1 : s.data.toList = xmlns
  · rw [h1, dpre_is]
    obtain rfl : s = ⟨#[120, 109, 108, 110, 115]⟩ := bytes_eq h1
    clear h1 hs
    go_enter Tryz.func171, Tryz.ntmps171
    go_wp2_with fail
    go_ret2
    exact ⟨rfl, HW.out⟩
  obtain ⟨n1, m1⟩ := lit_ne (l := [120, 109, 108, 110, 115]) h1
  have P := Lib.hid (parts_any s w hs)
  by_cases h2 : pre s.data.toList = xmlns
  · rw [dpre_yes h1 h2]
    rw [h2] at P
    change Hid (Calls Tryz.prog 145 #[.string s] w fun e w' => e = .returned (.tuple #[.string ⟨#[120, 109, 108, 110, 115]⟩, .string (mk (loc s.data.toList))]) ∧ Below w.heap.size w w') at P
    simp only [Option.getD_some, Option.isSome_some]
    clear h1 h2 hs
    generalize mk (loc s.data.toList) = L at P ⊢
    go_enter Tryz.func171, Tryz.ntmps171
    go_wp2_with fail
    refine P.out.mono ?_
    rintro r w1 ⟨rfl, hb⟩
    have HB := Lib.hid hb
    clear hb
    go_wp2_with fail
    go_ret2
    exact ⟨rfl, HB.out⟩
  · rw [dpre_no h1 h2]
    simp only [Option.getD_none, Option.isSome_none]
    have h3 : (mk (pre s.data.toList)).data.toList ≠ [120, 109, 108, 110, 115] := by rw [Sn.mk_list]; exact h2
    obtain ⟨n2, m2⟩ := lit_ne h3
    clear h1 h2 hs h3
    generalize mk (loc s.data.toList) = L at P ⊢
    generalize mk (pre s.data.toList) = R at P n2 m2 ⊢
    go_enter Tryz.func171, Tryz.ntmps171
    go_wp2_with fail
    refine P.out.mono ?_
    rintro r w1 ⟨rfl, hb⟩
    have HB := Lib.hid hb
    clear hb
    go_wp2_with fail
    go_ret2
    exact ⟨rfl, HB.out⟩

/-! ### find -/
theorem find_some {d : List At} {p : B8} {k : Nat} (hk : k < d.length) (hn : ∀ j (h : j < k), (d[j]'(by omega)).1.data.toList ≠ p) (h : d[k].1.data.toList = p) : find d p = some d[k].2 := by
  unfold find
  have : d.find? (fun b => b.1.data.toList == p) = some d[k] := by
    rw [List.find?_eq_some_iff_getElem]
    refine ⟨by simpa using h, k, hk, rfl, fun j hj => ?_⟩
    simpa using hn j hj
  rw [this]; rfl
theorem find_none {d : List At} {p : B8} (hn : ∀ j (h : j < d.length), d[j].1.data.toList ≠ p) : find d p = none := by
  unfold find
  have : d.find? (fun b => b.1.data.toList == p) = none := by
    rw [List.find?_eq_none]
    intro x hx
    obtain ⟨j, hj, rfl⟩ := List.getElem_of_mem hx
    simpa using hn j hj
  rw [this]; rfl
def optB (o : Option ByteArray) : Value := .tuple #[.string (o.getD ⟨#[]⟩), .bool o.isSome]
set_option maxRecDepth 100000 in
set_option maxHeartbeats 4000000 in
theorem find_any (d : List At) (p : ByteArray) (a : Option Addr) (c : Nat) (w : World) (hl : d.length ≤ 1048576) (hA : AtS Any8 w a d) :
    Calls Tryz.prog 172 #[.agg #[.slice a d.length c], .string p] w fun e w' => e = .returned (optB (find d p.data.toList)) ∧ Below w.heap.size w w' := by
  have HA := Lib.hid hA
  have HB0 : Hid (Below w.heap.size w (w.alloc (.cells #[.slice a d.length c] 153))) := (Below.refl _ _).alloc (Nat.le_refl _) _
  have HX0 := Lib.hid (box_new w #[.slice a d.length c] 153)
  unfold optB
  clear hA
  go_enter Tryz.func172, Tryz.ntmps172
  go_wp2_with fail
  go_loopw [11] (fun i wr => ∃ k : Nat, i = .int .i64 k ∧ k ≤ d.length ∧ Hid (Below w.heap.size w wr) ∧ Hid (∀ j (h : j < k) (h2 : j < d.length), d[j].1.data.toList ≠ p.data.toList)) (fun i _ => d.length - (RowKit.intOf i).toNat)
  case atStart => exact ⟨0, rfl, Nat.zero_le _, HB0.out, fun j h => by omega⟩
  case round =>
    obtain ⟨k, rfl, hk, HB, HN⟩ := hrel
    by_cases hlt : k < d.length
    · obtain ⟨b, o, rfl, _, y0, y1⟩ := (HA.out.below HB.out) k hlt
      have HF : Hid (d[k].1.data.toList = p.data.toList → find d p.data.toList = some d[k].2) := fun h => find_some hlt (fun j hj => HN.out j hj (by omega)) h
      have HN2 : Hid (d[k].1.data.toList ≠ p.data.toList → ∀ j (h : j < k + 1) (h2 : j < d.length), d[j].1.data.toList ≠ p.data.toList) := fun h j hj h2 => by
        by_cases e : j = k
        · subst e; exact h
        · exact HN.out j (by omega) h2
      have HB1 : Hid (Below w.heap.size w (wr.alloc (.cells #[.string d[k].1, .string d[k].2] 210))) := HB.out.alloc HB.out.size _
      generalize d[k] = q at y0 y1 HF HN2 HB1
      obtain ⟨q1, q2⟩ := q
      by_cases hq : q1 = p
      · subst hq
        have HF2 := Lib.hid (HF.out rfl)
        clear HF HN2
        go_wp2_with fail
        go_ret2
        exact ⟨by rw [HF2.out]; rfl, HB1.out⟩
      · have n1 := text_ne hq
        have n2 := text_neb hq
        have HN3 := Lib.hid (HN2.out (fun e => hq (bytes_eq e)))
        clear HF HN2 hq
        go_wp2_with fail
        go_roundw
        case rel => exact ⟨k + 1, by go_num, by omega, HB1.out, HN3.out⟩
        case measure => simp [RowKit.intOf]; omega
    · have HF2 := Lib.hid (find_none (d := d) (p := p.data.toList) (fun j hj => HN.out j (by omega) hj))
      go_wp2_with fail
      go_ret2
      exact ⟨by rw [HF2.out]; rfl, HB.out⟩

/-! ### countOthers -/
theorem others_take {l : List At} {k : Nat} (h : k < l.length) : others (l.take (k + 1)) = others (l.take k) + if (dpre l[k].1.data.toList).isSome then 0 else 1 := by
  unfold others
  rw [List.take_succ_eq_append_getElem h, List.filter_append, List.length_append]
  congr 1
  cases hd : dpre l[k].1.data.toList <;> simp [hd]
theorem others_le (l : List At) : others l ≤ l.length := List.length_filter_le _ _
set_option maxRecDepth 100000 in
set_option maxHeartbeats 4000000 in
theorem countOthers_any (l : List At) (a : Option Addr) (c : Nat) (w : World) (hl : l.length ≤ 1048576) (hf : Fit 1048576 l) (hA : AtS Any8 w a l) :
    Calls Tryz.prog 142 #[.slice a l.length c] w fun e w' => e = .returned (.int .i64 (others l)) ∧ Below w.heap.size w w' := by
  have HA := Lib.hid hA
  have HB0 : Hid (Below w.heap.size w w) := Below.refl _ _
  have DP := Lib.hid (fun (s : ByteArray) W hs => dpre_any s W hs)
  have HF := Lib.hid hf
  clear hA hf
  go_enter Tryz.func142, Tryz.ntmps142
  go_wp2_with fail
  go_loopw [3, 10] (fun n i wr => ∃ k m : Nat, n = .int .i64 m ∧ i = .int .i64 k ∧ k ≤ l.length ∧ m ≤ k ∧ Hid (Below w.heap.size w wr) ∧ Hid (others (l.take k) = m)) (fun _ i _ => l.length - (RowKit.intOf i).toNat)
  case atStart => exact ⟨0, 0, rfl, rfl, Nat.zero_le _, Nat.le_refl _, HB0.out, rfl⟩
  case round =>
    obtain ⟨k, m, rfl, rfl, hk, hm, HB, HN⟩ := hrel
    by_cases hlt : k < l.length
    · obtain ⟨b, o, rfl, _, y0, y1⟩ := (HA.out.below HB.out) k hlt
      have HT := Lib.hid (others_take hlt)
      have hz := (HF.out _ (List.getElem_mem hlt)).1
      have HB1 : Hid (Below w.heap.size w (wr.alloc (.cells #[.string l[k].1, .string l[k].2] 81))) := HB.out.alloc HB.out.size _
      generalize l[k] = q at y0 y1 HT HB1 hz
      obtain ⟨q1, q2⟩ := q
      have D := Lib.hid (DP.out q1 (wr.alloc (.cells #[.string q1, .string q2] 81)) hz)
      simp only at HT
      generalize mk ((dpre q1.data.toList).getD []) = G at D
      cases hd : (dpre q1.data.toList).isSome with
      | true =>
        rw [hd] at D HT
        have HN2 : Hid (others (l.take (k + 1)) = m) := by show _ = _; rw [HT.out, HN.out]; rfl
        clear HT HN hd hz
        go_wp2_with fail
        refine D.out.mono ?_
        rintro r w2 ⟨rfl, hb⟩
        have HB2 := Lib.hid (HB1.out.trans (hb.mono HB1.out.size))
        clear hb D y0 y1
        go_wp2_with fail
        go_roundw
        case rel => exact ⟨k + 1, m, rfl, by go_num, by omega, by omega, HB2.out, HN2.out⟩
        case measure => simp [RowKit.intOf]; omega
      | false =>
        rw [hd] at D HT
        have HN2 : Hid (others (l.take (k + 1)) = m + 1) := by show _ = _; rw [HT.out, HN.out]; rfl
        clear HT HN hd hz
        go_wp2_with fail
        refine D.out.mono ?_
        rintro r w2 ⟨rfl, hb⟩
        have HB2 := Lib.hid (HB1.out.trans (hb.mono HB1.out.size))
        clear hb D y0 y1
        go_wp2_with fail
        go_roundw
        case rel => exact ⟨k + 1, m + 1, by go_num, by go_num, by omega, by omega, HB2.out, HN2.out⟩
        case measure => simp [RowKit.intOf]; omega
    · have HN2 : Hid (others l = m) := by have := HN.out; rwa [List.take_of_length_le (by omega)] at this
      go_wp2_with fail
      go_ret
      exact ⟨by rw [HN2.out]; rfl, HB.out⟩

/-! ### hasTwins -/
open Go.Maps in
theorem str_law : Keyed Tryz.prog 9 := string_keyed Tryz.underlying9
theorem zero_int (w : World) : (zeroValue 3).run Tryz.prog w = .ok (.int .i64 0) w := by kernel_rfl
/-- Among the first k names none comes twice. -/
def Nd (l : List At) (k : Nat) : Prop := ∀ i j (hi : i < j) (hj : j < k) (h2 : j < l.length), (l[i]'(by omega)).1.data.toList ≠ l[j].1.data.toList
/-- The map reads as: each name of the first k once, no other. -/
def Once (l : List At) (k : Nat) (D : DataW Unit) : Prop := ∀ (s : ByteArray), D.atKey (.string s.data.toList) (.lit (.int .i64 0)) = .lit (.int .i64 (if ∃ j, ∃ (h : j < k) (h2 : j < l.length), l[j].1.data.toList = s.data.toList then 1 else 0))
theorem twins_of {l : List At} : twins l = true ↔ ∃ i j, ∃ (hi : i < j) (hj : j < l.length), (l[i]'(by omega)).1.data.toList = l[j].1.data.toList := by
  induction l with
  | nil => simp [twins]
  | cons a r ih =>
    rw [twins, Bool.or_eq_true, ih]
    constructor
    · rintro (h | ⟨i, j, hi, hj, e⟩)
      · obtain ⟨b, hb, he⟩ := List.any_eq_true.1 h
        obtain ⟨j, hj, rfl⟩ := List.getElem_of_mem hb
        have he : r[j].1.data.toList = a.1.data.toList := eq_of_beq he
        exact ⟨0, j + 1, by omega, by simpa using hj, by simp only [List.getElem_cons_zero, List.getElem_cons_succ]; exact he.symm⟩
      · exact ⟨i + 1, j + 1, by omega, by simpa using hj, by simpa using e⟩
    · rintro ⟨i, j, hi, hj, e⟩
      obtain ⟨j, rfl⟩ : ∃ k, j = k + 1 := ⟨j - 1, by omega⟩
      cases i with
      | zero =>
        left
        simp only [List.getElem_cons_zero, List.getElem_cons_succ] at e
        refine List.any_eq_true.2 ⟨r[j]'(by simpa using hj), List.getElem_mem _, ?_⟩
        rw [beq_iff_eq]
        exact e.symm
      | succ i => right; exact ⟨i, j, by omega, by simpa using hj, by simpa using e⟩
theorem nd_all {l : List At} (h : Nd l l.length) : twins l = false := by
  rw [Bool.eq_false_iff, ne_eq, twins_of]
  rintro ⟨i, j, hi, hj, e⟩
  exact h i j hi hj hj e
open Go.Maps in
/-- One round. -/
theorem once_step {l : List At} {k : Nat} {D : DataW Unit} (hk : k < l.length) (h : Once l k D) (hn : Nd l k) (hm : Maps.IsMap D) (hs : l[k].1.size ≤ 1048576) :
    (∃ c : Int, D.atKey (.string l[k].1.data.toList) (.lit (.int .i64 0)) = .lit (.int .i64 c) ∧ ((c = 1 ∧ twins l = true) ∨ (c = 0 ∧ Nd l (k + 1) ∧ Once l (k + 1) (D.put (.string l[k].1.data.toList) (.lit (.int .i64 1)))))) := by
  refine ⟨_, h l[k].1, ?_⟩
  by_cases hj : ∃ j, ∃ (h : j < k) (h2 : j < l.length), l[j].1.data.toList = l[k].1.data.toList
  · left
    rw [if_pos hj]
    obtain ⟨j, h1, h2, e⟩ := hj
    exact ⟨rfl, twins_of.2 ⟨j, k, h1, hk, e⟩⟩
  · right
    rw [if_neg hj]
    refine ⟨rfl, fun i j hi hjk h2 e => ?_, fun s => ?_⟩
    · by_cases e2 : j = k
      · subst e2; exact hj ⟨i, hi, by omega, e⟩
      · exact hn i j hi (by omega) h2 e
    · by_cases es : s.data.toList = l[k].1.data.toList
      · rw [es, atKey_put_same hm (by simp [WideAt.IsKeyLit]), if_pos ⟨k, by omega, hk, rfl⟩]
      · rw [atKey_put_other (by intro e; injection e with e; exact es e), h s]
        congr 3
        rw [eq_iff_iff]
        constructor
        · rintro ⟨j, h1, h2, e⟩; exact ⟨j, by omega, h2, e⟩
        · rintro ⟨j, h1, h2, e⟩
          by_cases e2 : j = k
          · subst e2; exact absurd e.symm es
          · exact ⟨j, by omega, h2, e⟩
open Go.Maps Go.WideMaps in
set_option maxRecDepth 100000 in
set_option maxHeartbeats 4000000 in
theorem hasTwins_any (l : List At) (a : Option Addr) (c : Nat) (w : World) (hl : l.length ≤ 1048576) (hf : Fit 1048576 l) (hA : AtS Any8 w a l) :
    Calls Tryz.prog 141 #[.slice a l.length c] w fun e w' => e = .returned (.bool (twins l)) ∧ Below w.heap.size w w' := by
  have hmm := @run_makeMap Tryz.prog
  have HA := Lib.hid hA
  have HF := Lib.hid hf
  have HB0 : Hid (Below w.heap.size w (w.alloc (.map #[] 0))) := (Below.refl _ _).alloc (Nat.le_refl _) _
  clear hA hf
  go_enter Tryz.func141, Tryz.ntmps141
  go_wp2_with fail
  go_loopw [9] (fun i wr => ∃ k : Nat, i = .int .i64 k ∧ k ≤ l.length ∧ Hid (Below w.heap.size w wr) ∧ Hid (Nd l k) ∧ (∃ D : DataW Unit, Hid (Once l k D) ∧ Hid (wr.ownsMap Tryz.prog 9 (plainElem Tryz.prog 3) w.heap.size k D))) (fun i _ => l.length - (RowKit.intOf i).toNat)
  case atStart => exact ⟨0, rfl, Nat.zero_le _, HB0.out, (fun i j _ h => by omega), .map [], (fun s => by rw [if_neg (by rintro ⟨j, h, _⟩; omega)]; rfl), World.ownsMap_made _ _ _ _⟩
  case round =>
    obtain ⟨k, rfl, hk, HB, HN, D, HO, HM⟩ := hrel
    by_cases hlt : k < l.length
    · obtain ⟨b, o, rfl, _, y0, y1⟩ := (HA.out.below HB.out) k hlt
      have hz := (HF.out _ (List.getElem_mem hlt)).1
      have HS := Lib.hid (once_step hlt HO.out HN.out HM.out.isMap hz)
      have HB1 : Hid (Below w.heap.size w (wr.alloc (.cells #[.string l[k].1, .string l[k].2] 81))) := HB.out.alloc HB.out.size _
      have HM1 : Hid ((wr.alloc (.cells #[.string l[k].1, .string l[k].2] 81)).ownsMap Tryz.prog 9 (plainElem Tryz.prog 3) w.heap.size k D) := HM.out.alloc _
      have HKEY : Hid (keyOf Tryz.prog 9 (.string l[k].1) = some (.string l[k].1.data.toList)) := keyOf_string_mk Tryz.underlying9 (by unfold maxLen; omega)
      generalize l[k] = q at y0 y1 HB1 hz HM1 HS HKEY
      obtain ⟨q1, q2⟩ := q
      simp only at HS HKEY
      have HBX := Lib.hid (box_new wr #[.string q1, .string q2] 81)
      have HM0 := HM
      clear HO HM HN HB
      obtain ⟨cc, hcc, hor⟩ := HS.out
      have HCC := Lib.hid hcc
      clear hcc HS
      rcases hor with ⟨h1, ht⟩ | ⟨h1, hn2, ho2⟩
      · subst h1
        have E := Lib.hid ht
        clear ht
        go_wp2_with (first
          | (at_lookup; first | (refine wpList_lookup_own_int _ rfl _ _ 208 rfl 9 3 .i64 str_law Tryz.underlying208 Tryz.underlying3 (zero_int _) w.heap.size _ _ rfl HM2.out _ _ rfl HKEY.out ?_; intro c1 hat hwc; obtain rfl : c1 = 2 := (by have := hat.symm.trans HAT.out; simpa using this); clear hat hwc) | (refine wpList_lookup_own_int _ rfl _ _ 208 rfl 9 3 .i64 str_law Tryz.underlying208 Tryz.underlying3 (zero_int _) w.heap.size _ _ rfl HM1.out _ _ rfl HKEY.out ?_; intro c1 hat hwc; obtain rfl : c1 = 1 := (by have := hat.symm.trans HCC.out; simpa using this); clear hat hwc))
          | (at_mapUpdate; refine wpList_mapUpdate_own _ rfl _ _ _ 208 rfl 9 3 str_law Tryz.underlying208 _ w.heap.size k _ rfl HM1.out (by unfold maxLen; omega) _ _ _ rfl rfl HKEY.out _ [] (plainElem_int Tryz.underlying3 (by decide)) ?_; intro w1 hown1 hgrow1; have HM2 := Lib.hid hown1; have HB2 := Lib.hid (HB1.out.grown hgrow1 HB1.out.size (fun j hj => by cases hj; exact Nat.le_refl _)); have HX2 := Lib.hid ((hgrow1.block wr.heap.size (heap_lt HBX.out) (by intro e; have e2 := Option.some.inj e; have := HM0.out.lt; omega)).trans HBX.out); have HAT : Hid ((D.put (.string q1.data.toList) (.lit (.int .i64 2))).atKey (.string q1.data.toList) (.lit (.int .i64 0)) = .lit (.int .i64 2)) := (atKey_put_same HM1.out.isMap (by simp [WideAt.IsKeyLit]) _ _); clear hown1 hgrow1 y0 y1; obtain ⟨x0, x1⟩ := bx2 HX2.out))
        go_ret
        exact ⟨by rw [E.out]; rfl, HB2.out⟩
      · subst h1
        have HN2 := Lib.hid hn2
        have HO2 := Lib.hid ho2
        clear hn2 ho2
        go_wp2_with (first
          | (at_lookup; first | (refine wpList_lookup_own_int _ rfl _ _ 208 rfl 9 3 .i64 str_law Tryz.underlying208 Tryz.underlying3 (zero_int _) w.heap.size _ _ rfl HM2.out _ _ rfl HKEY.out ?_; intro c1 hat hwc; obtain rfl : c1 = 1 := (by have := hat.symm.trans HAT.out; simpa using this); clear hat hwc) | (refine wpList_lookup_own_int _ rfl _ _ 208 rfl 9 3 .i64 str_law Tryz.underlying208 Tryz.underlying3 (zero_int _) w.heap.size _ _ rfl HM1.out _ _ rfl HKEY.out ?_; intro c1 hat hwc; obtain rfl : c1 = 0 := (by have := hat.symm.trans HCC.out; simpa using this); clear hat hwc))
          | (at_mapUpdate; refine wpList_mapUpdate_own _ rfl _ _ _ 208 rfl 9 3 str_law Tryz.underlying208 _ w.heap.size k _ rfl HM1.out (by unfold maxLen; omega) _ _ _ rfl rfl HKEY.out _ [] (plainElem_int Tryz.underlying3 (by decide)) ?_; intro w1 hown1 hgrow1; have HM2 := Lib.hid hown1; have HB2 := Lib.hid (HB1.out.grown hgrow1 HB1.out.size (fun j hj => by cases hj; exact Nat.le_refl _)); have HX2 := Lib.hid ((hgrow1.block wr.heap.size (heap_lt HBX.out) (by intro e; have e2 := Option.some.inj e; have := HM0.out.lt; omega)).trans HBX.out); have HAT : Hid ((D.put (.string q1.data.toList) (.lit (.int .i64 1))).atKey (.string q1.data.toList) (.lit (.int .i64 0)) = .lit (.int .i64 1)) := (atKey_put_same HM1.out.isMap (by simp [WideAt.IsKeyLit]) _ _); clear hown1 hgrow1 y0 y1; obtain ⟨x0, x1⟩ := bx2 HX2.out))
        go_roundw
        case rel => exact ⟨k + 1, by go_num, by omega, HB2.out, HN2.out, _, HO2.out, HM2.out⟩
        case measure => simp [RowKit.intOf]; omega
    · have E : Hid (twins l = false) := nd_all (by have := HN.out; rwa [show k = l.length by omega] at this)
      clear HO HM HN
      go_wp2_with fail
      go_ret
      exact ⟨by rw [E.out]; rfl, HB.out⟩
end Go.Proofs.YtolnpfcncmcacaaGreatDoor

/- The contract of scan.cutAttr: the attribute at the front of a text. Condition: the text has at most 1048576 bytes. -/
namespace Go.Proofs.YtolnpfcncmcacaaGreatDoor
open Go.RowKit Go.Lib Go.Shelf Tg Sn

/-- What cutAttr answers. -/
def cav (o : Option (At × B8)) : Value := match o with
  | none => .tuple #[.agg #[.string ⟨#[]⟩, .string ⟨#[]⟩], .string ⟨#[]⟩, .bool false]
  | some (a, r) => .tuple #[.agg #[.string a.1, .string a.2], .string (mk r), .bool true]
theorem ca_none {s : B8} (h : cut1 61 s = none) : cutAttr s = none := by unfold cutAttr; rw [h]
theorem ca_name {s nm b : B8} (h : cut1 61 s = some (nm, b)) (h2 : full nm = false) : cutAttr s = none := by unfold cutAttr; rw [h]; simp [h2]
theorem ca_empty {s nm : B8} (h : cut1 61 s = some (nm, [])) : cutAttr s = none := by unfold cutAttr; rw [h]; simp
theorem ca_quote {s nm tl : B8} {q : UInt8} (h : cut1 61 s = some (nm, q :: tl)) (h2 : ¬ (q = 39 ∨ q = 34)) : cutAttr s = none := by unfold cutAttr; rw [h]; simp only; rw [if_neg h2]; split <;> rfl
theorem ca_open {s nm tl : B8} {q : UInt8} (h : cut1 61 s = some (nm, q :: tl)) (h3 : cut1 q tl = none) : cutAttr s = none := by unfold cutAttr; rw [h]; simp only [h3]; split <;> (try split) <;> rfl
theorem ca_lt {s nm tl v r : B8} {q : UInt8} (h : cut1 61 s = some (nm, q :: tl)) (h3 : cut1 q tl = some (v, r)) (h4 : v.contains 60 = true) : cutAttr s = none := by unfold cutAttr; rw [h]; simp only [h3, h4, if_true]; split <;> (try split) <;> rfl
theorem ca_yes {s nm tl v r : B8} {q : UInt8} (h : cut1 61 s = some (nm, q :: tl)) (hf : full nm = true) (h2 : q = 39 ∨ q = 34) (h3 : cut1 q tl = some (v, r)) (h4 : v.contains 60 = false) : cutAttr s = some ((mk nm, mk v), r) := by
  unfold cutAttr; rw [h]; simp only [hf, if_true]; rw [if_pos h2]; simp only [h3, h4, Bool.false_eq_true, if_false]
theorem first_of {b : ByteArray} {q : UInt8} {tl : B8} (h : b.data.toList = q :: tl) : b.extract 1 b.size = mk tl ∧ b.extract 0 1 = ⟨#[q]⟩ ∧ 1 ≤ b.size ∧ b.toList.isEmpty = false := by
  have hl := congrArg List.length h
  rw [By.len_size, List.length_cons] at hl
  refine ⟨by rw [ext_drop, h]; rfl, by rw [ext_take, h]; rfl, by omega, ?_⟩
  rw [ByteArray.toList_eq, h]; rfl
/-- The byte at the front. -/
theorem first_byte {b : ByteArray} {q : UInt8} {tl : B8} (h : b.data.toList = q :: tl) (h1 : 0 < b.size) : (b[0]'h1).toNat = q.toNat := by
  rw [By.byte_nb b 0 h1]
  unfold By.nb
  rw [h]; rfl
set_option maxRecDepth 100000 in
set_option maxHeartbeats 8000000 in
theorem cutAttr_any (s : ByteArray) (w : World) (hs : s.size ≤ 1048576) :
    Calls Tryz.prog 140 #[.string s] w fun e w' => e = .returned (cav (cutAttr s.data.toList)) ∧ Below w.heap.size w w' := by
  have HB0 : Hid (Below w.heap.size w (w.alloc (.cells #[.string ⟨#[]⟩, .string ⟨#[]⟩] 81))) := (Below.refl _ _).alloc (Nat.le_refl _) _
  have HX0 := Lib.hid (box_new w #[.string ⟨#[]⟩, .string ⟨#[]⟩] 81)
  rcases hc : cut1 61 s.data.toList with _ | ⟨nm, b⟩
  · rw [ca_none hc]
    have C := Lib.hid (fun W => cut_no s 61 W hs hc)
    clear hc hs
    go_enter Tryz.func140, Tryz.ntmps140
    go_wp2_with fail
    refine (C.out _).mono ?_
    rintro r w1 ⟨rfl, hb⟩
    have HB1 := Lib.hid (HB0.out.trans (hb.mono HB0.out.size))
    have HX1 := Lib.hid ((hb.block _ (heap_lt HX0.out)).trans HX0.out)
    clear hb
    obtain ⟨x0, x1⟩ := bx2 HX1.out
    have f0 := Lib.frozen_of_heap HX1.out 0
    have f1 := Lib.frozen_of_heap HX1.out 1
    have HBN := HB1
    go_wp2_with fail
    exact bodyPost_ret (v := .tuple #[.agg #[.string ⟨#[]⟩, .string ⟨#[]⟩], .string ⟨#[]⟩, .bool false]) (by simp [results, Tryz.results140, go_sem, x0, x1]) rfl ⟨rfl, (HBN.out.setCell (Nat.le_refl _) _).setCell (Nat.le_refl _) _⟩
  have hcl := cut1_len hc
  rw [By.len_size] at hcl
  have C := Lib.hid (fun W => cut_yes s 61 W hs hc)
  have F := Lib.hid (fun W => isFull_mk nm W (by omega))
  generalize hNM : mk nm = NM at C F
  have HNMM := Lib.hid hNM
  clear hNM
  cases hf : full nm with
  | false =>
    rw [ca_name hc hf]
    rw [hf] at F
    clear hc hs hcl hf
    generalize mk b = BB at C
    go_enter Tryz.func140, Tryz.ntmps140
    go_wp2_with fail
    refine (C.out _).mono ?_
    rintro r w1 ⟨rfl, hb⟩
    have HB1 := Lib.hid (HB0.out.trans (hb.mono HB0.out.size))
    have HX1 := Lib.hid ((hb.block _ (heap_lt HX0.out)).trans HX0.out)
    clear hb
    go_wp2_with fail
    refine (F.out _).mono ?_
    rintro r w2 ⟨rfl, hb⟩
    have HB2 := Lib.hid (HB1.out.trans (hb.mono HB1.out.size))
    have HX2 := Lib.hid ((hb.block _ (heap_lt HX1.out)).trans HX1.out)
    clear hb
    obtain ⟨x0, x1⟩ := bx2 HX2.out
    have f0 := Lib.frozen_of_heap HX2.out 0
    have f1 := Lib.frozen_of_heap HX2.out 1
    have HBN := HB2
    go_wp2_with fail
    exact bodyPost_ret (v := .tuple #[.agg #[.string ⟨#[]⟩, .string ⟨#[]⟩], .string ⟨#[]⟩, .bool false]) (by simp [results, Tryz.results140, go_sem, x0, x1]) rfl ⟨rfl, (HBN.out.setCell (Nat.le_refl _) _).setCell (Nat.le_refl _) _⟩
  | true =>
    rw [hf] at F
    have HFUL := Lib.hid hf
    clear hf
    cases b with
    | nil =>
      rw [ca_empty hc]
      clear hc hs hcl
      change Hid (∀ W, Calls Tryz.prog 132 #[.string s, .string ⟨#[61]⟩] W fun e w' => e = .returned (.tuple #[.string NM, .string ⟨#[]⟩, .bool true]) ∧ Below W.heap.size W w') at C
      go_enter Tryz.func140, Tryz.ntmps140
      go_wp2_with fail
      refine (C.out _).mono ?_
      rintro r w1 ⟨rfl, hb⟩
      have HB1 := Lib.hid (HB0.out.trans (hb.mono HB0.out.size))
      have HX1 := Lib.hid ((hb.block _ (heap_lt HX0.out)).trans HX0.out)
      clear hb
      go_wp2_with fail
      refine (F.out _).mono ?_
      rintro r w2 ⟨rfl, hb⟩
      have HB2 := Lib.hid (HB1.out.trans (hb.mono HB1.out.size))
      have HX2 := Lib.hid ((hb.block _ (heap_lt HX1.out)).trans HX1.out)
      clear hb
      obtain ⟨x0, x1⟩ := bx2 HX2.out
      have f0 := Lib.frozen_of_heap HX2.out 0
      have f1 := Lib.frozen_of_heap HX2.out 1
      have HBN := HB2
      go_wp2_with fail
      exact bodyPost_ret (v := .tuple #[.agg #[.string ⟨#[]⟩, .string ⟨#[]⟩], .string ⟨#[]⟩, .bool false]) (by simp [results, Tryz.results140, go_sem, x0, x1]) rfl ⟨rfl, (HBN.out.setCell (Nat.le_refl _) _).setCell (Nat.le_refl _) _⟩
    | cons q tl =>
      have hbl : (mk (q :: tl)).data.toList = q :: tl := Sn.mk_list _
      obtain ⟨g1, g2, g3, g4⟩ := first_of hbl
      have g5 := first_byte hbl g3
      have HBS : Hid ((mk (q :: tl)).size ≤ 1048576) := by show _ ≤ _; rw [Sn.mk_size]; omega
      have HTS : Hid ((mk tl).size ≤ 1048576) := by show _ ≤ _; rw [Sn.mk_size]; simp only [List.length_cons] at hcl; omega
      have HTL := Lib.hid (mk_list tl)
      generalize hbb : mk (q :: tl) = BB at C g1 g2 g3 g4 g5 HBS
      clear hbb hbl
      have q256 : q.toNat < 256 := UInt8.toNat_lt q
      have n0 : (BB.toList != []) = true := by cases h : BB.toList with | nil => rw [h] at g4; cases g4 | cons _ _ => rfl
      have hx := extSome
      by_cases hq : q = 39 ∨ q = 34
      · have hqq : (((q.toNat : Int) != 39) = false ∧ ((q.toNat : Int) != 34) = true) ∨ (((q.toNat : Int) != 39) = true ∧ ((q.toNat : Int) != 34) = false) := by
          rcases hq with rfl | rfl
          · exact .inl ⟨rfl, rfl⟩
          · exact .inr ⟨rfl, rfl⟩
        rcases h3 : cut1 q tl with _ | ⟨v, rest⟩
        · rw [ca_open hc h3]
          have C2 := Lib.hid (fun W => cut_no (mk tl) q W HTS.out (by rw [HTL.out]; exact h3))
          clear hc hs hcl h3 HTS HTL HFUL
          generalize q.toNat = y at g5 q256 hqq
          clear hq
          rcases hqq with ⟨e1, e2⟩ | ⟨e1, e2⟩
          all_goals
            go_enter Tryz.func140, Tryz.ntmps140
            go_wp2_with fail
            refine (C.out _).mono ?_
            rintro r w1 ⟨rfl, hb⟩
            have HB1 := Lib.hid (HB0.out.trans (hb.mono HB0.out.size))
            have HX1 := Lib.hid ((hb.block _ (heap_lt HX0.out)).trans HX0.out)
            clear hb
            go_wp2_with fail
            refine (F.out _).mono ?_
            rintro r w2 ⟨rfl, hb⟩
            have HB2 := Lib.hid (HB1.out.trans (hb.mono HB1.out.size))
            have HX2 := Lib.hid ((hb.block _ (heap_lt HX1.out)).trans HX1.out)
            clear hb
            go_wp2_with fail
            have hx2 := extSome w2
            refine ext_region (by kernel_rfl) (by kernel_rfl) ?_
            repeat (go_big_quiet_step ((go_at_call 132; with_reducible exact ext_call _ (C2.out _))))
            refine wpQuiet_nil ?_
            rintro _ ⟨x, hxx⟩
            subst hxx
            have HB3 := Lib.hid (HB2.out.trans (x.below.mono HB2.out.size))
            have HX3 := Lib.hid ((x.below.block _ (heap_lt HX2.out)).trans HX2.out)
            clear hx2
            obtain ⟨x0, x1⟩ := bx2 HX3.out
            have f0 := Lib.frozen_of_heap HX3.out 0
            have f1 := Lib.frozen_of_heap HX3.out 1
            have HBN := HB3
            go_wp2_with fail
            exact bodyPost_ret (v := .tuple #[.agg #[.string ⟨#[]⟩, .string ⟨#[]⟩], .string ⟨#[]⟩, .bool false]) (by simp [results, Tryz.results140, go_sem, x0, x1]) rfl ⟨rfl, (HBN.out.setCell (Nat.le_refl _) _).setCell (Nat.le_refl _) _⟩
        · have hcl2 := cut1_len h3
          have C2 := Lib.hid (fun W => cut_yes (mk tl) q W HTS.out (by rw [HTL.out]; exact h3))
          have K := Lib.hid (fun W => contains_any (mk v) 60 W)
          rw [Sn.mk_list] at K
          generalize hV : mk v = V at C2 K
          cases h4 : v.contains 60 with
          | true =>
            rw [ca_lt hc h3 h4]
            rw [h4] at K
            clear hc hs hcl h3 HTS HTL HFUL hcl2 h4 hV
            generalize mk rest = RR at C2
            generalize q.toNat = y at g5 q256 hqq
            clear hq
            rcases hqq with ⟨e1, e2⟩ | ⟨e1, e2⟩
            all_goals
              go_enter Tryz.func140, Tryz.ntmps140
              go_wp2_with fail
              refine (C.out _).mono ?_
              rintro r w1 ⟨rfl, hb⟩
              have HB1 := Lib.hid (HB0.out.trans (hb.mono HB0.out.size))
              have HX1 := Lib.hid ((hb.block _ (heap_lt HX0.out)).trans HX0.out)
              clear hb
              go_wp2_with fail
              refine (F.out _).mono ?_
              rintro r w2 ⟨rfl, hb⟩
              have HB2 := Lib.hid (HB1.out.trans (hb.mono HB1.out.size))
              have HX2 := Lib.hid ((hb.block _ (heap_lt HX1.out)).trans HX1.out)
              clear hb
              go_wp2_with fail
              have hx2 := extSome w2
              refine ext_region (by kernel_rfl) (by kernel_rfl) ?_
              repeat (go_big_quiet_step ((go_at_call 132; with_reducible exact ext_call _ (C2.out _))))
              refine wpQuiet_nil ?_
              rintro _ ⟨x, hxx⟩
              subst hxx
              have HB3 := Lib.hid (HB2.out.trans (x.below.mono HB2.out.size))
              have HX3 := Lib.hid ((x.below.block _ (heap_lt HX2.out)).trans HX2.out)
              clear hx2
              go_wp2_with fail
              refine (K.out _).mono ?_
              rintro r w4 ⟨rfl, hb⟩
              have HB4 := Lib.hid (HB3.out.trans (hb.mono HB3.out.size))
              have HX4 := Lib.hid ((hb.block _ (heap_lt HX3.out)).trans HX3.out)
              clear hb
              obtain ⟨x0, x1⟩ := bx2 HX4.out
              have f0 := Lib.frozen_of_heap HX4.out 0
              have f1 := Lib.frozen_of_heap HX4.out 1
              have HBN := HB4
              go_wp2_with fail
              exact bodyPost_ret (v := .tuple #[.agg #[.string ⟨#[]⟩, .string ⟨#[]⟩], .string ⟨#[]⟩, .bool false]) (by simp [results, Tryz.results140, go_sem, x0, x1]) rfl ⟨rfl, (HBN.out.setCell (Nat.le_refl _) _).setCell (Nat.le_refl _) _⟩
          | false =>
            rw [ca_yes hc HFUL.out hq h3 h4]
            unfold cav
            simp only
            rw [h4] at K
            have HNM : Hid (mk nm = NM) := HNMM.out
            rw [HNM.out, hV]
            clear hc hs hcl h3 HTS HTL HFUL hcl2 h4 hV HNM HNMM
            generalize mk rest = RR at C2 ⊢
            generalize q.toNat = y at g5 q256 hqq
            clear hq
            rcases hqq with ⟨e1, e2⟩ | ⟨e1, e2⟩
            all_goals
              go_enter Tryz.func140, Tryz.ntmps140
              go_wp2_with fail
              refine (C.out _).mono ?_
              rintro r w1 ⟨rfl, hb⟩
              have HB1 := Lib.hid (HB0.out.trans (hb.mono HB0.out.size))
              have HX1 := Lib.hid ((hb.block _ (heap_lt HX0.out)).trans HX0.out)
              clear hb
              go_wp2_with fail
              refine (F.out _).mono ?_
              rintro r w2 ⟨rfl, hb⟩
              have HB2 := Lib.hid (HB1.out.trans (hb.mono HB1.out.size))
              have HX2 := Lib.hid ((hb.block _ (heap_lt HX1.out)).trans HX1.out)
              clear hb
              go_wp2_with fail
              have hx2 := extSome w2
              refine ext_region (by kernel_rfl) (by kernel_rfl) ?_
              repeat (go_big_quiet_step ((go_at_call 132; with_reducible exact ext_call _ (C2.out _))))
              refine wpQuiet_nil ?_
              rintro _ ⟨x, hxx⟩
              subst hxx
              have HB3 := Lib.hid (HB2.out.trans (x.below.mono HB2.out.size))
              have HX3 := Lib.hid ((x.below.block _ (heap_lt HX2.out)).trans HX2.out)
              clear hx2
              go_wp2_with fail
              refine (K.out _).mono ?_
              rintro r w4 ⟨rfl, hb⟩
              have HB4 := Lib.hid (HB3.out.trans (hb.mono HB3.out.size))
              have HX4 := Lib.hid ((hb.block _ (heap_lt HX3.out)).trans HX3.out)
              clear hb
              obtain ⟨x0, x1⟩ := bx2 HX4.out
              have f0 := Lib.frozen_of_heap HX4.out 0
              have f1 := Lib.frozen_of_heap HX4.out 1
              have HBN := HB4
              go_wp2_with fail
              exact bodyPost_ret (v := .tuple #[.agg #[.string NM, .string V], .string RR, .bool true]) (by simp [results, Tryz.results140, go_sem, x0, x1]) rfl ⟨rfl, (HBN.out.setCell (Nat.le_refl _) _).setCell (Nat.le_refl _) _⟩
      · rw [ca_quote hc hq]
        have e1 : ((q.toNat : Int) == 39) = false := by rw [beq_eq_false_iff_ne]; intro e; exact hq (.inl (UInt8.toNat_inj.1 (by simpa using (by omega : q.toNat = 39))))
        have e2 : ((q.toNat : Int) == 34) = false := by rw [beq_eq_false_iff_ne]; intro e; exact hq (.inr (UInt8.toNat_inj.1 (by simpa using (by omega : q.toNat = 34))))
        have e3 : ((q.toNat : Int) != 39) = true := by rw [bne, e1]; rfl
        have e4 : ((q.toNat : Int) != 34) = true := by rw [bne, e2]; rfl
        clear hc hs hcl HTS HTL HFUL hq
        generalize q.toNat = y at g5 q256 e1 e2 e3 e4
        go_enter Tryz.func140, Tryz.ntmps140
        go_wp2_with fail
        refine (C.out _).mono ?_
        rintro r w1 ⟨rfl, hb⟩
        have HB1 := Lib.hid (HB0.out.trans (hb.mono HB0.out.size))
        have HX1 := Lib.hid ((hb.block _ (heap_lt HX0.out)).trans HX0.out)
        clear hb
        go_wp2_with fail
        refine (F.out _).mono ?_
        rintro r w2 ⟨rfl, hb⟩
        have HB2 := Lib.hid (HB1.out.trans (hb.mono HB1.out.size))
        have HX2 := Lib.hid ((hb.block _ (heap_lt HX1.out)).trans HX1.out)
        clear hb
        obtain ⟨x0, x1⟩ := bx2 HX2.out
        have f0 := Lib.frozen_of_heap HX2.out 0
        have f1 := Lib.frozen_of_heap HX2.out 1
        have HBN := HB2
        go_wp2_with fail
        exact bodyPost_ret (v := .tuple #[.agg #[.string ⟨#[]⟩, .string ⟨#[]⟩], .string ⟨#[]⟩, .bool false]) (by simp [results, Tryz.results140, go_sem, x0, x1]) rfl ⟨rfl, (HBN.out.setCell (Nat.le_refl _) _).setCell (Nat.le_refl _) _⟩
end Go.Proofs.YtolnpfcncmcacaaGreatDoor

/- Contracts of scan.readValues and scan.declare: the attributes with what their values stand for; what they declare. Condition: strconv.ErrSyntax holds an error; texts have at most 1048576 bytes. -/
namespace Go.Proofs.YtolnpfcncmcacaaGreatDoor
open Go.RowKit Go.Lib Go.Shelf Tg Sn

/-! ### Rows of pairs -/
def cellsA (l : List At) : List Value := l.flatMap fun a => [.string a.1, .string a.2]
theorem cellsA_append (l m : List At) : cellsA (l ++ m) = cellsA l ++ cellsA m := by simp [cellsA]
theorem cellsA_one (a : At) : cellsA [a] = [.string a.1, .string a.2] := rfl
theorem cellsA_len (l : List At) : (cellsA l).length = l.length * 2 := by
  induction l with
  | nil => rfl
  | cons a r ih => simp only [cellsA, List.flatMap_cons, List.length_append, List.length_cons, List.length_nil] at ih ⊢; omega
theorem cellsA_at {l : List At} {i : Nat} (h : i < l.length) : (cellsA l)[i * 2]? = some (.string l[i].1) ∧ (cellsA l)[i * 2 + 1]? = some (.string l[i].2) := by
  induction l generalizing i with
  | nil => cases h
  | cons a r ih =>
    have e : cellsA (a :: r) = .string a.1 :: .string a.2 :: cellsA r := rfl
    cases i with
    | zero => rw [e]; exact ⟨rfl, rfl⟩
    | succ i =>
      obtain ⟨h1, h2⟩ := ih (i := i) (by simpa using h)
      rw [e, show (i + 1) * 2 = i * 2 + 1 + 1 by omega]
      exact ⟨by simpa using h1, by simpa using h2⟩
/-- A slice that holds the pairs l, in blocks of S. -/
def SlA (S : Nat → Prop) (w : World) (v : Value) (l : List At) : Prop := ∃ a c, v = .slice a l.length c ∧ l.length ≤ c ∧ c ≤ maxLen ∧ AtS S w a l
theorem SlA.nil (S : Nat → Prop) (w : World) : SlA S w (.slice none 0 0) [] := ⟨none, 0, rfl, Nat.le_refl _, Nat.zero_le _, fun i h => by cases h⟩
theorem SlA.weak {S S' : Nat → Prop} {w : World} {v : Value} {l : List At} (h : SlA S w v l) (hs : ∀ b, b < w.heap.size → S b → S' b) : SlA S' w v l := by
  obtain ⟨a, c, h1, h2, h3, h4⟩ := h
  exact ⟨a, c, h1, h2, h3, h4.weak hs⟩
theorem SlA.keep {S : Nat → Prop} {w w' : World} {v : Value} {l : List At} (h : SlA S w v l) (hk : ∀ b, S b → b < w.heap.size → w'.heap[b]? = w.heap[b]?) : SlA S w' v l := by
  obtain ⟨a, c, h1, h2, h3, h4⟩ := h
  exact ⟨a, c, h1, h2, h3, h4.keep hk⟩
theorem SlA.below {S : Nat → Prop} {w w' : World} {v : Value} {l : List At} (h : SlA S w v l) (hb : Below w.heap.size w w') : SlA S w' v l := h.keep fun b _ hlt => hb.block b hlt
theorem SlA.own {w : World} {B : Nat} {T : TypeId} {v : Value} {l : List At} (h : w.ownsRow B T 2 v l.length (cellsA l)) : SlA (fun b => B ≤ b) w v l := by
  rcases h.2 with ⟨rfl, h0⟩ | ⟨g, cap, cur, rfl, hb, hg, hn, hc, hs, ht⟩
  · obtain rfl := List.length_eq_zero_iff.1 h0
    exact SlA.nil _ _
  · refine ⟨_, _, rfl, hn, hc, fun i hi => ⟨g, 0, rfl, hb, ?_, ?_⟩⟩
    · have := (cellsA_at hi).1
      rw [← ht, List.getElem?_take] at this
      rw [Lib.cell_of_heap hg, Nat.zero_add]
      split at this
      · simpa using this
      · cases this
    · have := (cellsA_at hi).2
      rw [← ht, List.getElem?_take] at this
      rw [Lib.cell_of_heap hg, Nat.zero_add]
      split at this
      · simpa using this
      · cases this
theorem infoAttr : (Tryz.prog.info? 81).map (fun i => (i.zero, i.size, i.bytes)) = some (some (.agg #[.string ⟨#[]⟩, .string ⟨#[]⟩]), 2, 32) := by kernel_rfl
theorem infoBind : (Tryz.prog.info? 210).map (fun i => (i.zero, i.size, i.bytes)) = some (some (.agg #[.string ⟨#[]⟩, .string ⟨#[]⟩]), 2, 32) := by kernel_rfl

/-! ### readValues -/
/-- Ahead of what is read next: what was read. -/
def vcat (out : List At) (r : Nat × List At) : Nat × List At := match r with
  | (0, m) => (0, out ++ m)
  | (e, _) => (e, [])
theorem vals_ok {a : At} {r : List At} (h : (qt a.2.data.toList).1 = 0) : vals (a :: r) = vcat [(a.1, mk (qt a.2.data.toList).2)] (vals r) := by
  rw [vals]
  generalize qt a.2.data.toList = x at h
  obtain ⟨e, v⟩ := x
  simp only at h
  subst h
  simp only
  generalize vals r = y
  obtain ⟨e, m⟩ := y
  cases e with
  | zero => rfl
  | succ e => rfl
theorem vals_bad {a : At} {r : List At} (h : (qt a.2.data.toList).1 ≠ 0) : vals (a :: r) = ((qt a.2.data.toList).1, []) := by
  rw [vals]
  generalize qt a.2.data.toList = x at h
  obtain ⟨e, v⟩ := x
  cases e with
  | zero => exact absurd rfl h
  | succ e => rfl
theorem vcat_vcat (a b : List At) (r : Nat × List At) : vcat a (vcat b r) = vcat (a ++ b) r := by
  obtain ⟨e, m⟩ := r
  cases e with
  | zero => simp [vcat]
  | succ e => rfl
theorem vcat_bad {out : List At} {e : Nat} (h : e ≠ 0) : vcat out (e, []) = (e, []) := by
  cases e with
  | zero => exact absurd rfl h
  | succ e => rfl
theorem vals_len : ∀ l : List At, (vals l).2.length ≤ l.length
  | [] => by simp [vals]
  | a :: r => by
    by_cases h : (qt a.2.data.toList).1 = 0
    · rw [vals_ok h]
      have := vals_len r
      generalize vals r = y at this
      obtain ⟨e, m⟩ := y
      cases e with
      | zero => simp [vcat]; simpa using this
      | succ e => simp [vcat]
    · rw [vals_bad h]; simp
theorem vals_fit {n : Nat} : ∀ {l : List At}, Fit n l → Fit n (vals l).2
  | [], _ => by intro a h; simp [vals] at h
  | a :: r, hf => by
    by_cases h : (qt a.2.data.toList).1 = 0
    · rw [vals_ok h]
      have ih := vals_fit (l := r) (fun b hb => hf b (List.mem_cons_of_mem _ hb))
      generalize vals r = y at ih
      obtain ⟨e, m⟩ := y
      cases e with
      | zero =>
        intro b hb
        simp only [vcat, List.cons_append, List.nil_append, List.mem_cons] at hb
        rcases hb with rfl | hb
        · have h0 := hf a (List.mem_cons_self ..)
          have := qt_len a.2.data.toList
          rw [By.len_size] at this
          exact ⟨h0.1, by rw [Sn.mk_size]; omega⟩
        · exact ih b hb
      | succ e => intro b hb; simp [vcat] at hb
    · rw [vals_bad h]; intro b hb; simp at hb
/-- What readValues answers. -/
def RvP (l : List At) (w : World) (e : Ending) (w' : World) : Prop := ∃ v, e = .returned (.tuple #[v, .int .i64 (vals l).1]) ∧ SlA (fun b => w.heap.size ≤ b) w' v (vals l).2 ∧ Below w.heap.size w w'
theorem RvP.mk {l : List At} {w w' : World} {e : Ending} (v : Value) (he : e = .returned (.tuple #[v, .int .i64 (vals l).1])) (hs : SlA (fun b => w.heap.size ≤ b) w' v (vals l).2) (hb : Below w.heap.size w w') : RvP l w e w' := ⟨v, he, hs, hb⟩
/-- What readValues' loop keeps. -/
structure Rl (w : World) (l out : List At) (k : Nat) (v : Value) (wr : World) : Prop where
  own : wr.ownsRow w.heap.size 81 2 v out.length (cellsA out)
  len : out.length = k
  bel : Below w.heap.size w wr
  q : vals l = vcat out (vals (l.drop k))
theorem Rl.call {w : World} {l out : List At} {k : Nat} {v : Value} {wr w' : World} (h : Rl w l out k v wr) (hb : Below wr.heap.size wr w') : Rl w l out k v w' :=
  ⟨h.own.kept (row := none) ⟨hb.os, hb.tape, hb.output, hb.size, fun b hlt _ => hb.block b hlt⟩ (by cases v.ownBlock <;> simp), h.len, h.bel.trans (hb.mono h.bel.size), h.q⟩
theorem vcat_nil (r : Nat × List At) (h : r.1 = 0 ∨ r.2 = []) : vcat [] r = r := by
  obtain ⟨e, m⟩ := r
  cases e with
  | zero => rfl
  | succ e => rcases h with h | h <;> simp at h; subst h; rfl
theorem vals_err : ∀ l : List At, (vals l).1 = 0 ∨ (vals l).2 = []
  | [] => .inl rfl
  | a :: r => by
    by_cases h : (qt a.2.data.toList).1 = 0
    · rw [vals_ok h]
      generalize vals r = y
      obtain ⟨e, m⟩ := y
      cases e with
      | zero => exact .inl rfl
      | succ e => exact .inr rfl
    · rw [vals_bad h]; exact .inr rfl
/-- One more that was read. -/
theorem Rl.more {w : World} {l out : List At} {k : Nat} {v : Value} {wr w' : World} (h : Rl w l out k v wr) (hk : k < l.length) (h0 : (qt l[k].2.data.toList).1 = 0) {g cap : Nat}
    (hown : w'.ownsRow w.heap.size 81 2 (.slice (some ⟨g, 0, none⟩) (out.length + 1) cap) (out.length + 1) (cellsA out ++ [.string l[k].1, .string (Sn.mk (qt l[k].2.data.toList).2)])) (hb : Below w.heap.size w w') :
    Rl w l (out ++ [(l[k].1, Sn.mk (qt l[k].2.data.toList).2)]) (k + 1) (.slice (some ⟨g, 0, none⟩) (out.length + 1) cap) w' := by
  refine ⟨?_, by simp [h.len], hb, ?_⟩
  · rw [cellsA_append, cellsA_one, List.length_append]; exact hown
  · rw [h.q, List.drop_eq_getElem_cons hk, vals_ok h0, vcat_vcat]
theorem own_lt {wr : World} {T : TypeId} {B n : Nat} {v : Value} {xs : List Value} (h : wr.ownsRow B T 2 v n xs) : ∀ k, v.ownBlock = some k → B ≤ k := fun k hk => (h.lt k hk).1
set_option maxRecDepth 100000 in
set_option maxHeartbeats 8000000 in
theorem readValues_any (l : List At) (a : Option Addr) (c : Nat) (w : World) (hl : l.length ≤ 1048576) (hf : Fit 1048576 l) (hA : AtS Any8 w a l) (hG : Gd w) :
    Calls Tryz.prog 143 #[.slice a l.length c] w (RvP l w) := by
  obtain ⟨i0, hi0, hz0, hz1, hz2⟩ := info_parts infoAttr
  have HA := Lib.hid hA
  have HF := Lib.hid hf
  have HG := Lib.hid hG
  have H0 : Hid (Rl w l [] 0 (.slice none 0 0) w) := ⟨World.ownsRow_nil _ _ _ _, rfl, Below.refl _ _, by rw [vcat_nil _ (vals_err _)]; rfl⟩
  have QA := Lib.hid (fun (s : ByteArray) W hs hg => quoted_any s W hs hg)
  have CL := Lib.hid (fun (s : ByteArray) (hs : s.size ≤ 1048576) W => clone_any s W (by omega))
  clear hA hf hG
  go_enter Tryz.func143, Tryz.ntmps143
  go_wp2_with fail
  go_loopw [4, 11] (fun v i wr => ∃ (k : Nat) (out : List At), i = .int .i64 k ∧ k ≤ l.length ∧ Hid (Rl w l out k v wr)) (fun _ i _ => l.length - (RowKit.intOf i).toNat)
  case atStart => exact ⟨0, [], rfl, Nat.zero_le _, H0.out⟩
  case round =>
    obtain ⟨k, out, rfl, hk, HR⟩ := hrel
    by_cases hlt : k < l.length
    · obtain ⟨b, o, rfl, _, y0, y1⟩ := (HA.out.below HR.out.bel) k hlt
      have hz := HF.out _ (List.getElem_mem hlt)
      have HR1 := Lib.hid (HR.out.call ((Below.refl _ wr).alloc (Nat.le_refl _) (.cells #[.string l[k].1, .string l[k].2] 81)))
      have HX1 := Lib.hid (box_new wr #[.string l[k].1, .string l[k].2] 81)
      have Q := Lib.hid (QA.out l[k].2 (wr.alloc (.cells #[.string l[k].1, .string l[k].2] 81)) hz.2 (HG.out.below HR1.out.bel))
      have C := Lib.hid (CL.out l[k].1 hz.1)
      unfold qv at Q
      have HV : Hid ((qt l[k].2.data.toList).1 ≠ 0 → vals l = ((qt l[k].2.data.toList).1, [])) := fun h => by
        show _ = _
        rw [HR.out.q, List.drop_eq_getElem_cons hlt, vals_bad h, vcat_bad h]
      have HMO := Lib.hid (fun (w' : World) (g cap : Nat) h0 hown hb => HR.out.more (w' := w') hlt h0 (g := g) (cap := cap) hown hb)
      have hol := HR.out.len
      have HOL := Lib.hid hol
      clear HR hol
      generalize hq1 : l[k].1 = q1 at y0 HR1 HX1 Q C HMO
      generalize hq2 : (qt l[k].2.data.toList).2 = t at Q HMO
      generalize hq3 : (qt l[k].2.data.toList).1 = e at Q HV HMO
      generalize l[k].2 = q2 at y1 HR1 HX1 Q hq2 hq3
      clear hq1 hq2 hq3 hz
      by_cases h0 : e = 0
      · have ne : ((e : Int) != 0) = false := by rw [bne_eq_false_iff_eq]; omega
        have HE := Lib.hid h0
        clear h0 HV
        go_wp2_with fail
        refine Q.out.mono ?_
        rintro r w1 ⟨rfl, hb⟩
        have HR2 := Lib.hid (HR1.out.call hb)
        have HX2 := Lib.hid ((hb.block _ (heap_lt HX1.out)).trans HX1.out)
        clear hb Q HR1 HX1 y0 y1
        obtain ⟨x0, x1⟩ := bx2 HX2.out
        go_wp2_with fail
        refine (C.out _).mono ?_
        rintro r w2 ⟨rfl, hb⟩
        have HR3 := Lib.hid (HR2.out.call hb)
        clear hb C HR2 HX2 x0 x1
        go_wp2_with (at_builtin; refine wpList_append_lies _ rfl _ _ 46 rfl w.heap.size 81 i0 _ 2 32 Tryz.underlying46 hi0 hz0 hz1 hz2 rfl (by decide) _ out.length (cellsA out) rfl (HR3.out.own.alloc _) ⟨w2.heap.size, 0, none⟩ 1 1 [.string q1, .string (Sn.mk t)] rfl rfl (World.news_of_block (cs := #[.string q1, .string (Sn.mk t)]) (t := 81) (fr := (0, 0)) (heap_alloc_new w2 _)) (by simp [Value.oneCell']) (by decide) (by have := HOL.out; unfold maxLen; omega) (by have := HOL.out; omega) (by have := HR3.out.bel.size; simp; omega) _ rfl ?_; intro g cap w3 hown hgrow hat hlt3)
        have HB3 := Lib.hid ((HR3.out.bel.alloc HR3.out.bel.size _).grown hgrow (by have := HR3.out.bel.size; simp; omega) (own_lt HR3.out.own))
        have HR4 := Lib.hid (HMO.out w3 g cap HE.out hown HB3.out)
        clear hown hgrow hat hlt3 HMO HR3
        go_wp2_with fail
        go_roundw
        case rel => exact ⟨k + 1, _, by go_num, by omega, HR4.out⟩
        case measure => simp [RowKit.intOf]; omega
      · have ne : ((e : Int) != 0) = true := by rw [bne_iff_ne]; omega
        have HV2 := Lib.hid (HV.out h0)
        clear h0 HV HMO
        go_wp2_with fail
        refine Q.out.mono ?_
        rintro r w1 ⟨rfl, hb⟩
        have HR2 := Lib.hid (HR1.out.call hb)
        clear hb Q HR1 HX1
        go_wp2_with fail
        go_ret2
        exact RvP.mk _ (by rw [HV2.out]; rfl) (by rw [HV2.out]; exact SlA.nil _ _) HR2.out.bel
    · have HV : Hid (vals l = (0, out)) := by
        show _ = _
        rw [HR.out.q, List.drop_of_length_le (by omega), vals]
        simp [vcat]
      go_wp2_with fail
      go_ret2
      exact RvP.mk _ (by rw [HV.out]; rfl) (by rw [HV.out]; exact SlA.own HR.out.own) HR.out.bel

/-! ### declare -/
/-- What declare answers. -/
def DcP (l : List At) (w : World) (e : Ending) (w' : World) : Prop := ∃ v, e = .returned (.tuple #[.agg #[v], .bool (decls l).isSome]) ∧ SlA (fun b => w.heap.size ≤ b) w' v ((decls l).getD []) ∧ Below w.heap.size w w'
theorem DcP.mk {l : List At} {w w' : World} {e : Ending} (v : Value) (he : e = .returned (.tuple #[.agg #[v], .bool (decls l).isSome])) (hs : SlA (fun b => w.heap.size ≤ b) w' v ((decls l).getD [])) (hb : Below w.heap.size w w') : DcP l w e w' := ⟨v, he, hs, hb⟩
theorem decls_skip {a : At} {r : List At} (h : dpre a.1.data.toList = none) : decls (a :: r) = decls r := by rw [decls, h]
theorem decls_bad {a : At} {r : List At} {p : B8} (h : dpre a.1.data.toList = some p) (h2 : a.2.size = 0 ∨ 256 < a.2.size ∨ p = xml ∨ p = xmlns) : decls (a :: r) = none := by
  rw [decls, h]; simp only; rw [if_pos h2]
theorem decls_good {a : At} {r : List At} {p : B8} (h : dpre a.1.data.toList = some p) (h2 : ¬ (a.2.size = 0 ∨ 256 < a.2.size ∨ p = xml ∨ p = xmlns)) : decls (a :: r) = (decls r).map ((Sn.mk p, a.2) :: ·) := by
  rw [decls, h]; simp only; rw [if_neg h2]
theorem decls_len : ∀ {l d : List At}, decls l = some d → d.length ≤ l.length
  | [], d, h => by rw [decls] at h; cases h; simp
  | a :: r, d, h => by
    cases hd : dpre a.1.data.toList with
    | none => rw [decls_skip hd] at h; have := decls_len h; simp; omega
    | some p =>
      by_cases h2 : a.2.size = 0 ∨ 256 < a.2.size ∨ p = xml ∨ p = xmlns
      · rw [decls_bad hd h2] at h; cases h
      · rw [decls_good hd h2] at h
        cases he : decls r with
        | none => rw [he] at h; cases h
        | some m =>
          rw [he] at h
          simp only [Option.map_some, Option.some.injEq] at h
          subst h
          have := decls_len he
          simpa using this
theorem dpre_len {l p : B8} (h : dpre l = some p) : p.length ≤ l.length := by
  unfold dpre at h
  split at h
  · cases h; simp
  · split at h
    · cases h
    · rename_i x lo hc
      split at h
      · cases h; have := cut1_len hc; omega
      · cases h
theorem decls_fit {n : Nat} : ∀ {l d : List At}, Fit n l → decls l = some d → Fit n d
  | [], d, _, h => by rw [decls] at h; cases h; intro a ha; cases ha
  | a :: r, d, hf, h => by
    have hr : Fit n r := fun b hb => hf b (List.mem_cons_of_mem _ hb)
    cases hd : dpre a.1.data.toList with
    | none => rw [decls_skip hd] at h; exact decls_fit hr h
    | some p =>
      by_cases h2 : a.2.size = 0 ∨ 256 < a.2.size ∨ p = xml ∨ p = xmlns
      · rw [decls_bad hd h2] at h; cases h
      · rw [decls_good hd h2] at h
        cases he : decls r with
        | none => rw [he] at h; cases h
        | some m =>
          rw [he] at h
          simp only [Option.map_some, Option.some.injEq] at h
          subst h
          intro b hb
          simp only [List.mem_cons] at hb
          rcases hb with rfl | hb
          · have h0 := hf a (List.mem_cons_self ..)
            have := dpre_len hd
            rw [By.len_size] at this
            exact ⟨by rw [Sn.mk_size]; omega, h0.2⟩
          · exact decls_fit hr he b hb
end Go.Proofs.YtolnpfcncmcacaaGreatDoor

/- The contract of scan.declare: what attributes declare. Condition: texts have at most 1048576 bytes. -/
namespace Go.Proofs.YtolnpfcncmcacaaGreatDoor
open Go.RowKit Go.Lib Go.Shelf Tg Sn

/-- What declare's loop keeps: the result's box, the box of what was declared, the row of it. -/
structure Dl (w : World) (l out : List At) (k : Nat) (v : Value) (wr : World) : Prop where
  own : wr.ownsRow (w.heap.size + 2) 210 2 v out.length (cellsA out)
  rb : wr.heap[w.heap.size]? = some (.cells #[.slice none 0 0] 153 (0, 0))
  db : wr.heap[w.heap.size + 1]? = some (.cells #[v] 153 (0, 0))
  len : out.length ≤ k
  bel : Below w.heap.size w wr
  q : decls l = (decls (l.drop k)).map (out ++ ·)
theorem Dl.call {w : World} {l out : List At} {k : Nat} {v : Value} {wr w' : World} (h : Dl w l out k v wr) (hb : Below wr.heap.size wr w') : Dl w l out k v w' :=
  ⟨h.own.kept (row := none) ⟨hb.os, hb.tape, hb.output, hb.size, fun b hlt _ => hb.block b hlt⟩ (by cases v.ownBlock <;> simp), (hb.block _ (heap_lt h.rb)).trans h.rb, (hb.block _ (heap_lt h.db)).trans h.db, h.len, h.bel.trans (hb.mono h.bel.size), h.q⟩
theorem own_form {w : World} {B : Nat} {T : TypeId} {v : Value} {n s : Nat} {xs : List Value} (h : w.ownsRow B T s v n xs) : ∃ a c, v = .slice a n c := by
  rcases h.2 with ⟨rfl, rfl⟩ | ⟨g, cap, cur, rfl, _⟩
  · exact ⟨_, _, rfl⟩
  · exact ⟨_, _, rfl⟩
theorem Dl.skip {w : World} {l out : List At} {k : Nat} {v : Value} {wr : World} (h : Dl w l out k v wr) (hk : k < l.length) (hd : dpre l[k].1.data.toList = none) : Dl w l out (k + 1) v wr :=
  ⟨h.own, h.rb, h.db, Nat.le_succ_of_le h.len, h.bel, by rw [h.q, List.drop_eq_getElem_cons hk, decls_skip hd]⟩
theorem Dl.bad {w : World} {l out : List At} {k : Nat} {v : Value} {wr : World} {p : B8} (h : Dl w l out k v wr) (hk : k < l.length) (hd : dpre l[k].1.data.toList = some p)
    (h2 : l[k].2.size = 0 ∨ 256 < l[k].2.size ∨ p = xml ∨ p = xmlns) : decls l = none := by rw [h.q, List.drop_eq_getElem_cons hk, decls_bad hd h2]; rfl
theorem Dl.good {w : World} {l out : List At} {k : Nat} {v : Value} {wr : World} {p : B8} (h : Dl w l out k v wr) (hk : k < l.length) (hd : dpre l[k].1.data.toList = some p)
    (h2 : ¬ (l[k].2.size = 0 ∨ 256 < l[k].2.size ∨ p = xml ∨ p = xmlns)) : decls l = (decls (l.drop (k + 1))).map ((out ++ [(Sn.mk p, l[k].2)]) ++ ·) := by
  rw [h.q, List.drop_eq_getElem_cons hk, decls_good hd h2, Option.map_map]
  congr 1
  funext m
  simp
/-- One more is declared. -/
theorem Dl.more {w : World} {l out : List At} {k : Nat} {v : Value} {w3 w4 : World} {PP q2 : ByteArray} {o1 : Obj} {g cap : Nat} {dv : Array Value} (h : Dl w l out k v w3) (_hk : k < l.length)
    (hq : decls l = (decls (l.drop (k + 1))).map ((out ++ [(PP, q2)]) ++ ·)) (hd : w4.heap[w.heap.size + 1]? = some (.cells dv 153 (0, 0)))
    (hown : w4.ownsRow (w.heap.size + 2) 210 2 (.slice (some ⟨g, 0, none⟩) (out.length + 1) cap) (out.length + 1) (cellsA out ++ [.string PP, .string q2])) (hg : (w3.alloc o1).grownBy w4 v.ownBlock) (hdv : dv.size = 1 := by rfl) :
    Dl w l (out ++ [(PP, q2)]) (k + 1) (.slice (some ⟨g, 0, none⟩) (out.length + 1) cap) (w4.setCell ⟨w.heap.size + 1, 0, none⟩ (.slice (some ⟨g, 0, none⟩) (out.length + 1) cap)) := by
  have hs : w.heap.size < w3.heap.size := heap_lt h.rb
  have hs1 : w.heap.size + 1 < w3.heap.size := heap_lt h.db
  have hlow : ∀ b, v.ownBlock = some b → w.heap.size + 2 ≤ b := own_lt h.own
  refine ⟨?_, ?_, ?_, by have := h.len; simp; omega, ?_, hq⟩
  · rw [cellsA_append, cellsA_one, List.length_append]
    exact ownsRow_setCell_below hown (by show w.heap.size + 1 < w.heap.size + 2; omega) _
  · refine (Below.heap_setCell _ _ _ _ (by show w.heap.size ≠ w.heap.size + 1; omega)).trans ((hg.block _ (by simp; omega) (by intro e; have := hlow _ e.symm; omega)).trans ((Below.heap_alloc _ _ _ hs).trans h.rb))
  · obtain ⟨x, rfl⟩ : ∃ x, dv = #[x] := by
      cases dv with
      | mk l =>
        match l, hdv with
        | [x], _ => exact ⟨x, rfl⟩
    simp [World.setCell, Array.getElem?_modify, hd]
  · refine Below.setCell ((h.bel.alloc (by omega) _).grown hg (by simp; omega) (fun b hb => ?_)) (by show w.heap.size ≤ w.heap.size + 1; omega) _
    have := hlow b hb
    omega
theorem Dl.drew {w : World} {l out : List At} {k : Nat} {v : Value} {wr : World} (h : Dl w l out k v wr) : Dl w l out k v wr.drew := h.call (Below.refl _ wr).drew
set_option maxRecDepth 100000 in
set_option maxHeartbeats 8000000 in
theorem declare_any (l : List At) (a : Option Addr) (c : Nat) (w : World) (hl : l.length ≤ 1048576) (hf : Fit 1048576 l) (hA : AtS Any8 w a l) :
    Calls Tryz.prog 144 #[.slice a l.length c] w (DcP l w) := by
  obtain ⟨i0, hi0, hz0, hz1, hz2⟩ := info_parts infoBind
  have HA := Lib.hid hA
  have HF := Lib.hid hf
  have H0 : Hid (Dl w l [] 0 (.slice none 0 0) ((w.alloc (.cells #[.slice none 0 0] 153)).alloc (.cells #[.slice none 0 0] 153))) :=
    ⟨World.ownsRow_nil _ _ _ _, (Below.heap_alloc _ _ _ (by simp)).trans (box_new w _ _), by simpa using box_new (w.alloc (.cells #[.slice none 0 0] 153)) #[.slice none 0 0] 153, Nat.le_refl _,
      ((Below.refl _ _).alloc (Nat.le_refl _) _).alloc (by simp) _, by cases h : decls (l.drop 0) <;> simp_all⟩
  have DP := Lib.hid (fun (s : ByteArray) W hs => dpre_any s W hs)
  have CL := Lib.hid (fun (s : ByteArray) (hs : s.size ≤ 1048576) W => clone_any s W (by omega))
  clear hA hf
  go_enter Tryz.func144, Tryz.ntmps144
  go_wp2_with fail
  go_loopw [11] (fun i wr => ∃ (k : Nat) (out : List At) (v : Value), i = .int .i64 k ∧ k ≤ l.length ∧ Hid (Dl w l out k v wr)) (fun i _ => l.length - (RowKit.intOf i).toNat)
  case atStart => exact ⟨0, [], _, rfl, Nat.zero_le _, H0.out⟩
  case round =>
    obtain ⟨k, out, v, rfl, hk, HR⟩ := hrel
    clear H0
    obtain ⟨va, vc, rfl⟩ := own_form HR.out.own
    by_cases hlt : k < l.length
    · obtain ⟨b, o, rfl, _, y0, y1⟩ := (HA.out.below HR.out.bel) k hlt
      have hz := HF.out _ (List.getElem_mem hlt)
      have HR1 := Lib.hid (HR.out.call ((Below.refl _ wr).alloc (Nat.le_refl _) (.cells #[.string l[k].1, .string l[k].2] 81)))
      have HX1 := Lib.hid (box_new wr #[.string l[k].1, .string l[k].2] 81)
      have D := Lib.hid (DP.out l[k].1 (wr.alloc (.cells #[.string l[k].1, .string l[k].2] 81)) hz.1)
      have HSK := Lib.hid (fun (wr' : World) (h : Dl w l out k (.slice va out.length vc) wr') hd => h.skip hlt hd)
      have HBD := Lib.hid (fun p hd h2 => HR.out.bad (p := p) hlt hd h2)
      have HGD := Lib.hid (fun p hd h2 => HR.out.good (p := p) hlt hd h2)
      have hol := HR.out.len
      have HWR : Hid (w.heap.size + 1 < wr.heap.size) := heap_lt HR.out.db
      clear HR
      generalize l[k] = q at y0 y1 HR1 HX1 D HSK HBD HGD hz
      obtain ⟨q1, q2⟩ := q
      simp only at HSK HBD HGD D hz
      cases hd : dpre q1.data.toList with
      | none =>
        rw [hd] at D
        simp only [Option.getD_none, Option.isSome_none] at D
        have HS2 := Lib.hid (fun wr' h => HSK.out wr' h hd)
        clear hd HSK HBD HGD
        go_wp2_with fail
        refine D.out.mono ?_
        rintro r w1 ⟨rfl, hb⟩
        have HR2 := Lib.hid (HS2.out _ (HR1.out.call hb))
        clear hb D HR1 HX1 y0 y1 HS2
        go_wp2_with fail
        go_roundw
        case rel => exact ⟨k + 1, _, _, by go_num, by omega, HR2.out⟩
        case measure => simp [RowKit.intOf]; omega
      | some p =>
        rw [hd] at D
        simp only [Option.getD_some, Option.isSome_some] at D
        have hpl := dpre_len hd
        rw [By.len_size] at hpl
        have C := Lib.hid (CL.out (Sn.mk p) (by rw [Sn.mk_size]; omega))
        have HPL := Lib.hid (mk_list p)
        generalize hPP : Sn.mk p = PP at D C HPL HGD
        by_cases h1 : q2.size = 0
        · obtain rfl := By.empty_of h1
          have HE := Lib.hid (HBD.out p hd (.inl h1))
          clear hd HSK HBD HGD h1 hz hPP
          go_wp2_with fail
          refine D.out.mono ?_
          rintro r w1 ⟨rfl, hb⟩
          have HR2 := Lib.hid (HR1.out.call hb)
          have HX2 := Lib.hid ((hb.block _ (heap_lt HX1.out)).trans HX1.out)
          clear hb D HR1 HX1 y0 y1
          obtain ⟨x0, x1⟩ := bx2 HX2.out
          have r0 : w1.cell? ⟨w.heap.size, 0, none⟩ = some (.slice none 0 0) := by rw [Lib.cell_of_heap HR2.out.rb]; rfl
          have f0 := Lib.frozen_of_heap HR2.out.rb 0
          go_wp2_with fail
          exact bodyPost_ret (v := .tuple #[.agg #[.slice none 0 0], .bool false]) (by simp [results, Tryz.results144, go_sem, r0]) rfl (DcP.mk _ (by rw [HE.out]; rfl) (by rw [HE.out]; exact SlA.nil _ _) (HR2.out.bel.setCell (Nat.le_refl _) _))
        have hne := By.nonempty h1
        have hne2 : ¬ q2.toList = [] := by intro e; rw [e] at hne; cases hne
        by_cases h2 : 256 < q2.size
        · have d256 : decide ((256 : Int) < q2.size) = true := by simp; omega
          have HE := Lib.hid (HBD.out p hd (.inr (.inl h2)))
          clear hd HSK HBD HGD h1 h2 hz hPP
          go_wp2_with fail
          refine D.out.mono ?_
          rintro r w1 ⟨rfl, hb⟩
          have HR2 := Lib.hid (HR1.out.call hb)
          have HX2 := Lib.hid ((hb.block _ (heap_lt HX1.out)).trans HX1.out)
          clear hb D HR1 HX1 y0 y1
          obtain ⟨x0, x1⟩ := bx2 HX2.out
          have r0 : w1.cell? ⟨w.heap.size, 0, none⟩ = some (.slice none 0 0) := by rw [Lib.cell_of_heap HR2.out.rb]; rfl
          have f0 := Lib.frozen_of_heap HR2.out.rb 0
          go_wp2_with fail
          exact bodyPost_ret (v := .tuple #[.agg #[.slice none 0 0], .bool false]) (by simp [results, Tryz.results144, go_sem, r0]) rfl (DcP.mk _ (by rw [HE.out]; rfl) (by rw [HE.out]; exact SlA.nil _ _) (HR2.out.bel.setCell (Nat.le_refl _) _))
        have d256 : decide ((256 : Int) < q2.size) = false := by simp; omega
        by_cases h3 : p = xml
        · have HE := Lib.hid (HBD.out p hd (.inr (.inr (.inl h3))))
          obtain rfl : PP = ⟨#[120, 109, 108]⟩ := by rw [← hPP, h3]; rfl
          clear hd HSK HBD HGD h1 h2 hz hPP h3 hpl HPL C
          go_wp2_with fail
          refine D.out.mono ?_
          rintro r w1 ⟨rfl, hb⟩
          have HR2 := Lib.hid (HR1.out.call hb)
          have HX2 := Lib.hid ((hb.block _ (heap_lt HX1.out)).trans HX1.out)
          clear hb D HR1 HX1 y0 y1
          obtain ⟨x0, x1⟩ := bx2 HX2.out
          have r0 : w1.cell? ⟨w.heap.size, 0, none⟩ = some (.slice none 0 0) := by rw [Lib.cell_of_heap HR2.out.rb]; rfl
          have f0 := Lib.frozen_of_heap HR2.out.rb 0
          go_wp2_with fail
          exact bodyPost_ret (v := .tuple #[.agg #[.slice none 0 0], .bool false]) (by simp [results, Tryz.results144, go_sem, r0]) rfl (DcP.mk _ (by rw [HE.out]; rfl) (by rw [HE.out]; exact SlA.nil _ _) (HR2.out.bel.setCell (Nat.le_refl _) _))
        by_cases h4 : p = xmlns
        · have HE := Lib.hid (HBD.out p hd (.inr (.inr (.inr h4))))
          obtain rfl : PP = ⟨#[120, 109, 108, 110, 115]⟩ := by rw [← hPP, h4]; rfl
          clear hd HSK HBD HGD h1 h2 hz hPP h3 h4 hpl HPL C
          go_wp2_with fail
          refine D.out.mono ?_
          rintro r w1 ⟨rfl, hb⟩
          have HR2 := Lib.hid (HR1.out.call hb)
          have HX2 := Lib.hid ((hb.block _ (heap_lt HX1.out)).trans HX1.out)
          clear hb D HR1 HX1 y0 y1
          obtain ⟨x0, x1⟩ := bx2 HX2.out
          have r0 : w1.cell? ⟨w.heap.size, 0, none⟩ = some (.slice none 0 0) := by rw [Lib.cell_of_heap HR2.out.rb]; rfl
          have f0 := Lib.frozen_of_heap HR2.out.rb 0
          go_wp2_with fail
          exact bodyPost_ret (v := .tuple #[.agg #[.slice none 0 0], .bool false]) (by simp [results, Tryz.results144, go_sem, r0]) rfl (DcP.mk _ (by rw [HE.out]; rfl) (by rw [HE.out]; exact SlA.nil _ _) (HR2.out.bel.setCell (Nat.le_refl _) _))
        obtain ⟨n3, m3⟩ := lit_ne (a := PP) (l := [120, 109, 108]) (by rw [HPL.out]; exact h3)
        obtain ⟨n4, m4⟩ := lit_ne (a := PP) (l := [120, 109, 108, 110, 115]) (by rw [HPL.out]; exact h4)
        have HG := Lib.hid (HGD.out p hd (by rintro (h | h | h | h) <;> contradiction))
        rw [hPP] at HG
        have HOL := Lib.hid hol
        have HKL := Lib.hid hlt
        clear hd HSK HBD HGD h1 h2 hz hPP h3 h4 hpl HPL hol
        go_wp2_with fail
        refine D.out.mono ?_
        rintro r w1 ⟨rfl, hb⟩
        have HR2 := Lib.hid (HR1.out.call hb)
        have HX2 := Lib.hid ((hb.block _ (heap_lt HX1.out)).trans HX1.out)
        have hXN : wr.heap.size < w1.heap.size := Nat.lt_of_lt_of_le (heap_lt HX1.out) hb.size
        have hwr : w.heap.size + 1 < wr.heap.size := HWR.out
        clear hb D HR1 HX1 y0 y1
        obtain ⟨x0, x1⟩ := bx2 HX2.out
        have d0 : w1.cell? ⟨w.heap.size + 1, 0, none⟩ = some (.slice va out.length vc) := by rw [Lib.cell_of_heap HR2.out.db]; rfl
        have fd := Lib.frozen_of_heap HR2.out.db 0
        generalize wr.heap.size = X at HX2 x0 x1 hXN hwr ⊢
        go_wp2_with fail
        go_region_law (first
          | (refine step_append_lies _ (by rfl) _ _ _ (by rfl) (w.heap.size + 2) 210 i0 _ 2 32 Tryz.underlying151 hi0 hz0 hz1 hz2 rfl (by omega) (.slice va out.length vc) out.length (cellsA out) (by rfl) (HR3.out.own.alloc _) ⟨w3.heap.size, 0, none⟩ 1 1 [.string PP, .string q2] (by rfl) (by rfl) (World.news_of_block (cs := #[.string PP, .string q2]) (t := 210) (fr := (0, 0)) (heap_alloc_new w3 _)) (by simp [Value.oneCell']) (by omega) (by have := HOL.out; unfold maxLen; omega) (by have := HOL.out; omega) ?hb (w3.heap.size + 1) (by simp) ?_; (case hb => (have := heap_lt HR3.out.db; simp; omega)); intro g cap w4 hown hgrow hat hlt4; have HD4 : Hid (w4.heap[w.heap.size + 1]? = _) := (hgrow.block (w.heap.size + 1) (by have := heap_lt HR3.out.db; simp; omega) (by intro e; have := own_lt HR3.out.own _ e.symm; omega)).trans ((Below.heap_alloc _ _ _ (heap_lt HR3.out.db)).trans HR3.out.db); have d4 : w4.cell? ⟨w.heap.size + 1, 0, none⟩ = some (.slice va out.length vc) := (by rw [Lib.cell_of_heap HD4.out]; rfl); have f4 : w4.frozen? ⟨w.heap.size + 1, 0, none⟩ = false := Lib.frozen_of_heap HD4.out 0)
          | (go_simp; go_at_call 33; refine (C.out _).mono ?_; rintro e w3 ⟨rfl, hb3⟩; have HR3 := Lib.hid (HR2.out.drew.call hb3); have HX3 := Lib.hid ((hb3.block _ (heap_lt HX2.out)).trans HX2.out); have d3 : w3.cell? ⟨w.heap.size + 1, 0, none⟩ = some (.slice va out.length vc) := (by rw [Lib.cell_of_heap HR3.out.db]; rfl); have d3b := cell_alloc d3 (.cells #[.string PP, .string q2] 210); have x3 : w3.cell? ⟨X, 1, none⟩ = some (.string q2) := (by rw [Lib.cell_of_heap HX3.out]; rfl)))
        all_goals
          have HR5 : Hid (Dl w l (out ++ [(PP, q2)]) (k + 1) (.slice (some ⟨g, 0, none⟩) (out.length + 1) cap) (w4.setCell ⟨w.heap.size + 1, 0, none⟩ (.slice (some ⟨g, 0, none⟩) (out.length + 1) cap))) := HR3.out.more HKL.out HG.out HD4.out hown hgrow
          clear hown hgrow hat hlt4 HR3 HD4 d4 f4
          generalize w4.setCell ⟨w.heap.size + 1, 0, none⟩ (.slice (some ⟨g, 0, none⟩) (out.length + 1) cap) = W5 at HR5 ⊢
          go_wp2_with fail
          go_roundw
          case rel => exact ⟨k + 1, _, _, by go_num, by omega, HR5.out⟩
          case measure => simp [RowKit.intOf]; omega
    · have HE : Hid (decls l = some out) := by
        show _ = _
        rw [HR.out.q, List.drop_of_length_le (by omega), decls]
        simp
      have r0 : wr.cell? ⟨w.heap.size, 0, none⟩ = some (.slice none 0 0) := by rw [Lib.cell_of_heap HR.out.rb]; rfl
      have d0 : wr.cell? ⟨w.heap.size + 1, 0, none⟩ = some (.slice va out.length vc) := by rw [Lib.cell_of_heap HR.out.db]; rfl
      have f0 := Lib.frozen_of_heap HR.out.rb 0
      have HFI : Hid (SlA (fun b => w.heap.size ≤ b) (wr.setCell ⟨w.heap.size, 0, none⟩ (.slice va out.length vc)) (.slice va out.length vc) out ∧ Below w.heap.size w (wr.setCell ⟨w.heap.size, 0, none⟩ (.slice va out.length vc))) :=
        ⟨((SlA.own HR.out.own).keep (fun b hb _ => Below.heap_setCell _ _ _ _ (by show b ≠ w.heap.size; omega))).weak (fun b _ hb => by omega), HR.out.bel.setCell (Nat.le_refl _) _⟩
      go_wp2_with fail
      exact bodyPost_ret (v := .tuple #[.agg #[.slice va out.length vc], .bool true]) (by simp [results, Tryz.results144, go_sem, r0]) rfl (DcP.mk _ (by rw [HE.out]; rfl) (by rw [HE.out]; exact HFI.out.1) HFI.out.2)
end Go.Proofs.YtolnpfcncmcacaaGreatDoor

/- strings.IndexAny of a text at the four blanks: where the first one is. Condition: the text has at most 1048576 bytes. -/
namespace Go.Proofs.YtolnpfcncmcacaaGreatDoor
open Go.RowKit Go.Lib Go.Shelf Sg
open Sn (B8 bk)

/-- Where the first blank is; -1: there is none. -/
def ixa (l : B8) : Int := if l.any bk then ((l.takeWhile (fun c => !bk c)).length : Int) else -1
theorem anyC (l : B8) : l.any (([32, 9, 10, 13] : B8).contains ·) = l.any bk := by
  congr 1
  exact funext bl_contains
theorem ixa_none {l : B8} (h : l.any bk = false) : ixa l = -1 := by unfold ixa; rw [h]; rfl
theorem take_hit {a r : B8} {b : UInt8} (ha : a.any bk = false) (hb : bk b = true) : (a ++ b :: r).takeWhile (fun c => !bk c) = a := by
  induction a with
  | nil => simp [hb]
  | cons x a ih =>
    simp only [List.any_cons, Bool.or_eq_false_iff] at ha
    simp [ha.1, ih ha.2]
theorem ixa_at {a r : B8} {b : UInt8} (ha : a.any bk = false) (hb : bk b = true) : ixa (a ++ b :: r) = (a.length : Int) := by
  unfold ixa
  rw [take_hit ha hb, if_pos (by simp [hb])]
theorem bk_low : ∀ b : UInt8, bk b = true → b.toNat < 128 := by
  intro b h
  simp only [bk, Bool.or_eq_true, beq_iff_eq] at h
  rcases h with ((rfl | rfl) | rfl) | rfl <;> decide
theorem ixa_hit {c : Nat} {a : B8} (hc : Sg.ok c = true) (ha : a.any bk = false) (h : (enc c).any bk = true) (r : B8) : ixa (a ++ (enc c ++ r)) = (a.length : Int) := by
  have hp : ∀ b : UInt8, 128 ≤ b.toNat → bk b = false := fun b hb => by
    rw [Bool.eq_false_iff]
    intro e
    have := bk_low b e
    omega
  rw [enc_any hp hc] at h
  by_cases h1 : c < 128
  · have he : enc c = [u c] := by unfold enc; rw [if_pos h1]
    simp only [h1, decide_true, Bool.true_and] at h
    rw [he]
    exact ixa_at ha h
  · simp [h1] at h
theorem ixa_long : ∀ l : B8, Lib.indexAny l [32, 9, 10, 13] = ixa l
  | [] => rfl
  | b :: l => by
    have ih := ixa_long l
    have hge := Lib.indexAny_ge [32, 9, 10, 13] l
    rw [Lib.indexAny, bl_contains]
    cases h : bk b with
    | true => simp [ixa, h]
    | false =>
      simp only [Bool.false_eq_true, if_false]
      rw [ih]
      cases ha : l.any bk with
      | false => rw [ixa_none ha, ixa_none (by simp [h, ha])]; rfl
      | true =>
        unfold ixa
        simp only [List.any_cons, h, ha, Bool.false_or, if_true, List.takeWhile_cons, Bool.not_false, List.length_cons]
        rw [if_neg (by simp)]
        push_cast
        rfl
set_option maxRecDepth 100000 in
set_option maxHeartbeats 4000000 in
theorem ix_short (s ch : ByteArray) (hch : ch.data.toList = [32, 9, 10, 13]) (w : World) (h4 : 4 ≤ ch.size) (hs : ch.size ≤ 1000) (ha : ∀ b ∈ ch.data.toList, b.toNat < 128) (h8 : s.size ≤ 8) {cs : List Nat} (ht : IsT s.data.toList cs) :
    Calls Tryz.prog 86 #[.string s, .string ch] w fun e w' => e = .returned (.int .i64 (ixa s.data.toList)) ∧ Below w.heap.size w w' := by
  have R := Lib.hid (fun c W (hc : Sg.ok c = true) => ix_sign ch c W h4 hs ha hc)
  have HA := Lib.hid ha
  have HCH := Lib.hid hch
  have HT := Lib.hid ht
  have SU := Lib.hid (fun W => Any.strings_shouldUseASCIISet Tryz.lays226 (s.size : Int) W)
  have e8 : decide ((8 : Int) < s.size) = false := by simp; omega
  have hemp : ch.toList.isEmpty = false := by
    rw [ByteArray.toList_eq]
    cases h : ch.data.toList with
    | nil => have := Lib.size_eq ch; rw [h, List.length_nil] at this; omega
    | cons _ _ => rfl
  have hn1 : ((ch.size : Int) == 1) = false := beq_eq_false_iff_ne.2 (by omega)
  clear ha ht hch
  go_enter Tryz.func86, Tryz.ntmps86
  go_wp2_with fail
  refine (SU.out _).mono ?_
  rintro r w1 ⟨rfl, hw⟩
  subst hw
  rw [e8]
  go_wp2_with fail
  go_loopg [9, 10] cs.length (fun g _ _ wr => ∃ done rest, cs = done ++ rest ∧ rest.length = g ∧ wr.heap[w1.heap.size]? = some (.stringIter s (cat done).length) ∧ Hid (Below w1.heap.size w1 wr) ∧ Hid ((cat done).any (ch.data.toList.contains ·) = false))
  case atStart => exact ⟨[], cs, rfl, rfl, World.iter_heap _ _ _, (Below.refl _ _).alloc (Nat.le_refl _) _, rfl⟩
  case round =>
    obtain ⟨done, rest, hcs, hg, hit, HB, HN⟩ := hrel
    have HC := Lib.hid hcs
    have HG := Lib.hid hg
    clear hcs hg
    cases gk with
    | zero =>
      have hend : Hid (rest = []) := List.length_eq_zero_iff.1 HG.out
      have hsz : ¬ (cat done).length < s.size := by
        have h1 := congrArg List.length HT.out.2
        rw [HC.out, hend.out, List.append_nil, ← Lib.size_eq] at h1
        omega
      have hnx := fun ty => run_next_end_at (P := Tryz.prog) wr _ s _ ty hit hsz
      have HF : Hid (s.data.toList.any (ch.data.toList.contains ·) = false) := by
        show _ = _
        rw [HT.out.2, HC.out, hend.out, List.append_nil]; exact HN.out
      clear hsz hit
      go_wp2_with fail
      go_ret
      exact ⟨by rw [ixa_none (by have := HF.out; rwa [HCH.out, anyC] at this)]; rfl, HB.out⟩
    | succ g =>
      obtain ⟨c, rest2, hr⟩ : ∃ c rest2, rest = c :: rest2 := by
        cases rest with
        | nil => have := HG.out; simp at this
        | cons c r => exact ⟨c, r, rfl⟩
      subst hr
      have hok : Sg.ok c = true := HT.out.1 c (by rw [HC.out]; simp)
      have hall : s.data.toList = cat done ++ cat (c :: rest2) := by rw [HT.out.2, HC.out, cat_append]
      obtain ⟨hlt, hd⟩ := dec_at hall hok
      have hnx := fun ty => run_next_any_at (P := Tryz.prog) wr _ s _ ty hit hlt
      rw [hd] at hnx
      have hit2 := Lib.iterAt_heap wr _ s _ ((cat done).length + (enc c).length) hit
      have hh := hit_any HA.out hok
      have hcc : Hid ((cat (done ++ [c])).any (ch.data.toList.contains ·) = (enc c).any (ch.data.toList.contains ·)) := by
        show _ = _
        rw [cat_append, List.any_append, HN.out, Bool.false_or]; simp [cat]
      have hlen : (cat (done ++ [c])).length = (cat done).length + (enc c).length := by rw [cat_append, List.length_append]; simp [cat]
      have HB2 := Lib.hid (Lib.below_iterAt HB.out (Nat.le_refl _) s ((cat done).length + (enc c).length))
      have HL := Lib.hid hlen
      have HH := Lib.hid hit2
      have Rc := Lib.hid (fun W => R.out c W hok)
      have HAll : Hid ((enc c).any (ch.data.toList.contains ·) = true → ixa s.data.toList = ((cat done).length : Int)) := by
        intro h
        have hn := HN.out
        rw [HCH.out, anyC] at h hn
        rw [hall, cat_cons]
        exact ixa_hit hok hn h _
      generalize wr.iterAt w1.heap.size s ((cat done).length + (enc c).length) = w2 at hnx hit2 HB2 HH
      cases hv : (enc c).any (ch.data.toList.contains ·) with
      | true =>
        have HIX := Lib.hid (HAll.out hv)
        rw [hv] at hh
        clear hv hd hlt hit hit2 hlen hall hok
        go_wp2_with fail
        refine (Rc.out _).mono ?_
        rintro r w3 ⟨rfl, hb⟩
        have HB3 := Lib.hid (HB2.out.trans (hb.mono HB2.out.size))
        clear hb
        go_wp2_with fail
        go_ret
        exact ⟨by rw [HIX.out]; rfl, HB3.out⟩
      | false =>
        have HV : Hid ((cat (done ++ [c])).any (ch.data.toList.contains ·) = false) := hcc.out.trans hv
        rw [hv] at hh
        clear hv hd hlt hit hit2 hlen hall hok
        go_wp2_with fail
        refine (Rc.out _).mono ?_
        rintro r w3 ⟨rfl, hb⟩
        have hlt2 : w1.heap.size < w2.heap.size := (Array.getElem?_eq_some_iff.1 HH.out).1
        have HI : Hid (w3.heap[w1.heap.size]? = some (.stringIter s (cat (done ++ [c])).length)) := by
          show _ = _
          rw [hb.block _ hlt2, HL.out]; exact HH.out
        have HB3 := Lib.hid (HB2.out.trans (hb.mono HB2.out.size))
        clear hb
        go_wp2_with fail
        go_roundg g
        case measure => omega
        case rel => exact ⟨done ++ [c], rest2, by rw [HC.out]; simp, by have := HG.out; simpa using this, HI.out, HB3.out, HV.out⟩

set_option maxRecDepth 100000 in
theorem indexAny_bk (s : ByteArray) (w : World) (hs : s.size ≤ 1048576) {cs : List Nat} (ht : IsT s.data.toList cs) :
    Calls Tryz.prog 86 #[.string s, .string ⟨#[32, 9, 10, 13]⟩] w fun e w' => e = .returned (.int .i64 (ixa s.data.toList)) ∧ Below w.heap.size w w' := by
  have ha : ∀ b ∈ (⟨#[32, 9, 10, 13]⟩ : ByteArray).data.toList, b.toNat < 128 := fun b hb => by
    have : bk b = true := by rw [← bl_contains]; simpa using hb
    exact bk_low b this
  by_cases h8 : s.size ≤ 8
  · exact ix_short s ⟨#[32, 9, 10, 13]⟩ rfl w (by decide) (by decide) ha h8 ht
  · have L := Any.strings_IndexAny_long Tryz.lays153 (zero_of_info set256).1 (zero_of_info set256).2 s ⟨#[32, 9, 10, 13]⟩ w (by decide) (by omega) (by omega) (by decide) (fun j b hb => ha b (List.mem_of_getElem? hb))
    exact L.mono fun e w' ⟨he, hw⟩ => by
      subst hw
      exact ⟨by rw [he]; exact congrArg (fun z => Ending.returned (.int .i64 z)) (ixa_long _), ((Below.refl _ _).alloc (Nat.le_refl _) _).alloc (by simp) _⟩
end Go.Proofs.YtolnpfcncmcacaaGreatDoor

/- The contract of scan.readBeginning: what a tag begins. Condition: the tag is a text of at most 1048576 bytes. -/
namespace Go.Proofs.YtolnpfcncmcacaaGreatDoor
open Go.RowKit Go.Lib Go.Shelf Tg Sn

/-! ### Plain facts -/
theorem suf_one (l : B8) (c : UInt8) : Lib.hasSuffix l [c] = (l.getLast? == some c) := by
  unfold Lib.hasSuffix
  rw [List.isSuffixOf]
  cases h : l.getLast? with
  | none =>
    rw [List.getLast?_eq_none_iff] at h
    subst h; rfl
  | some x =>
    obtain ⟨y, rfl⟩ := List.getLast?_eq_some_iff.1 h
    simp [List.isPrefixOf]
    rw [Bool.eq_iff_iff, beq_iff_eq, beq_iff_eq]
    exact eq_comm
theorem trim_one (l : B8) (c : UInt8) : Lib.trimSuffix l [c] = if l.getLast? = some c then l.dropLast else l := by
  unfold Lib.trimSuffix
  rw [suf_one]
  by_cases h : l.getLast? = some c
  · rw [if_pos h, h]; simp [List.dropLast_eq_take]
  · rw [if_neg h, if_neg (by simpa using h)]
theorem in2 (t : B8) : Lib.trimSuffix (Sn.inner t) [47] = inner2 t ∧ Lib.hasSuffix (Sn.inner t) [47] = isEmp t := by
  rw [trim_one, suf_one]
  unfold inner2 isEmp
  refine ⟨?_, rfl⟩
  by_cases h : (Sn.inner t).getLast? = some 47
  · rw [if_pos h, if_pos (by simp [h])]
  · rw [if_neg h, if_neg (by simpa using h)]
theorem inner_len (t : B8) : (inner2 t).length ≤ t.length := by
  unfold inner2 Sn.inner
  split <;> simp <;> omega
theorem cutAttr_len {s be : B8} {a : At} (h : cutAttr s = some (a, be)) : a.1.size + a.2.size + be.length + 1 ≤ s.length := by
  unfold cutAttr at h
  split at h
  · cases h
  · rename_i nm b hc
    have h1 := cut1_len hc
    split at h
    · split at h
      · cases h
      · rename_i q tl
        split at h
        · split at h
          · cases h
          · rename_i v rest hv
            have h2 := cut1_len hv
            simp only [List.length_cons] at h1
            split at h
            · cases h
            · simp only [Option.some.injEq, Prod.mk.injEq] at h
              obtain ⟨rfl, rfl⟩ := h
              simp only [Sn.mk_size]
              omega
        · cases h
    · cases h
theorem drop_le (l : B8) : (l.dropWhile bk).length ≤ l.length := (List.dropWhile_sublist _).length_le
theorem rawsF_fuel : ∀ (f g : Nat) (s : B8), s.length < f → s.length < g → rawsF f s = rawsF g s
  | 0, _, _, h, _ => by omega
  | _, 0, _, _, h => by omega
  | f + 1, g + 1, s, hf, hg => by
    rw [rawsF, rawsF]
    split
    · rfl
    · cases hc : cutAttr (s.dropWhile bk) with
      | none => rfl
      | some p =>
        obtain ⟨a, be⟩ := p
        have h1 := cutAttr_len hc
        have h2 := drop_le s
        simp only
        split
        · rfl
        · rw [rawsF_fuel f g be (by omega) (by omega)]
theorem raws_end {s : B8} (h : s.dropWhile bk = []) : raws s = some [] := by unfold raws; rw [rawsF, if_pos h]
theorem raws_none {s : B8} (h : s.dropWhile bk ≠ []) (h2 : cutAttr (s.dropWhile bk) = none) : raws s = none := by unfold raws; rw [rawsF, if_neg h, h2]
theorem raws_glued {s be : B8} {a : At} (h : s.dropWhile bk ≠ []) (h2 : cutAttr (s.dropWhile bk) = some (a, be)) (h3 : (s.dropWhile bk).length = s.length) : raws s = none := by unfold raws; rw [rawsF, if_neg h, h2]; simp only; rw [if_pos h3]
theorem raws_more {s be : B8} {a : At} (h : s.dropWhile bk ≠ []) (h2 : cutAttr (s.dropWhile bk) = some (a, be)) (h3 : (s.dropWhile bk).length ≠ s.length) : raws s = (raws be).map (a :: ·) := by
  have h4 := cutAttr_len h2
  have h5 := drop_le s
  unfold raws; rw [rawsF, if_neg h, h2]; simp only; rw [if_neg h3, rawsF_fuel s.length (be.length + 1) be (by omega) (by omega)]
theorem raws_fit : ∀ (n : Nat) {s : B8} {l : List At}, s.length ≤ n → raws s = some l → Fit n l ∧ l.length ≤ n := by
  intro n
  induction n with
  | zero =>
    intro s l hs h
    have : s = [] := List.length_eq_zero_iff.1 (by omega)
    subst this
    rw [raws_end rfl] at h
    cases h
    exact ⟨fun a ha => (by cases ha), Nat.le_refl _⟩
  | succ n ih =>
    intro s l hs h
    by_cases h1 : s.dropWhile bk = []
    · rw [raws_end h1] at h; cases h; exact ⟨fun a ha => (by cases ha), Nat.zero_le _⟩
    · cases hc : cutAttr (s.dropWhile bk) with
      | none => rw [raws_none h1 hc] at h; cases h
      | some p =>
        obtain ⟨a, be⟩ := p
        by_cases h3 : (s.dropWhile bk).length = s.length
        · rw [raws_glued h1 hc h3] at h; cases h
        · rw [raws_more h1 hc h3] at h
          have h4 := cutAttr_len hc
          have h5 := drop_le s
          cases hr : raws be with
          | none => rw [hr] at h; cases h
          | some m =>
            rw [hr] at h
            simp only [Option.map_some, Option.some.injEq] at h
            subst h
            obtain ⟨i1, i2⟩ := ih (by omega) hr
            refine ⟨fun b hb => ?_, by simp; omega⟩
            simp only [List.mem_cons] at hb
            rcases hb with rfl | hb
            · omega
            · have := i1 b hb; omega
theorem take_none {l : B8} (h : l.any bk = false) : l.takeWhile (fun c => !bk c) = l ∧ l.dropWhile (fun c => !bk c) = [] := by
  induction l with
  | nil => exact ⟨rfl, rfl⟩
  | cons b l ih =>
    simp only [List.any_cons, Bool.or_eq_false_iff] at h
    obtain ⟨i1, i2⟩ := ih h.2
    simp [h.1, i1, i2]
theorem take_drop_while (l : B8) (p : UInt8 → Bool) : l.take (l.takeWhile p).length = l.takeWhile p ∧ l.drop (l.takeWhile p).length = l.dropWhile p := by
  have h := List.takeWhile_append_dropWhile (p := p) (l := l)
  constructor
  · conv => lhs; rw [← h]
    rw [List.take_left' (by rw [h])]
  · conv => lhs; rw [← h]
    rw [List.drop_left' (by rw [h])]
/-- What readBeginning answers. -/
def RbP (o : Option Bg) (w : World) (e : Ending) (w' : World) : Prop :=
  ((o = none ∧ e = .returned (.tuple #[.agg #[.string ⟨#[]⟩, .slice none 0 0, .bool false], .bool false])) ∨ (∃ b v, o = some b ∧ e = .returned (.tuple #[.agg #[.string b.name, v, .bool b.empty], .bool true]) ∧ SlA (fun k => w.heap.size ≤ k) w' v b.attrs)) ∧ Below w.heap.size w w'
theorem RbP.bad {o : Option Bg} {w w' : World} {e : Ending} (h : o = none) (he : e = .returned (.tuple #[.agg #[.string ⟨#[]⟩, .slice none 0 0, .bool false], .bool false])) (hb : Below w.heap.size w w') : RbP o w e w' := ⟨.inl ⟨h, he⟩, hb⟩
theorem RbP.good {o : Option Bg} {w w' : World} {e : Ending} {nm : ByteArray} {l : List At} {em : Bool} (v : Value) (h : o = some ⟨nm, l, em⟩) (he : e = .returned (.tuple #[.agg #[.string nm, v, .bool em], .bool true])) (hs : SlA (fun k => w.heap.size ≤ k) w' v l) (hb : Below w.heap.size w w') : RbP o w e w' := ⟨.inr ⟨_, v, h, he, hs⟩, hb⟩
/-- What its loop keeps: the result's box, the beginning's box E, the row of the attributes. -/
structure Rb (w : World) (E : Nat) (nm : ByteArray) (em : Bool) (l0 rest : B8) (out : List At) (v : Value) (wr : World) : Prop where
  own : wr.ownsRow (E + 1) 81 2 v out.length (cellsA out)
  rb : wr.heap[w.heap.size]? = some (.cells #[.string ⟨#[]⟩, .slice none 0 0, .bool false] 159 (0, 0))
  eb : wr.heap[E]? = some (.cells #[.string nm, v, .bool em] 159 (0, 0))
  ne : w.heap.size < E
  bel : Below w.heap.size w wr
  q : raws l0 = (raws rest).map (out ++ ·)
  len : out.length + rest.length ≤ l0.length
theorem Rb.call {w : World} {E : Nat} {nm : ByteArray} {em : Bool} {l0 rest : B8} {out : List At} {v : Value} {wr w' : World} (h : Rb w E nm em l0 rest out v wr) (hb : Below wr.heap.size wr w') : Rb w E nm em l0 rest out v w' :=
  ⟨h.own.kept (row := none) ⟨hb.os, hb.tape, hb.output, hb.size, fun b hlt _ => hb.block b hlt⟩ (by cases v.ownBlock <;> simp), (hb.block _ (heap_lt h.rb)).trans h.rb, (hb.block _ (heap_lt h.eb)).trans h.eb, h.ne, h.bel.trans (hb.mono h.bel.size), h.q, h.len⟩
theorem bx3 {w : World} {b : Nat} {v0 v1 v2 : Value} {t : TypeId} {fz : Nat × Nat} (h : w.heap[b]? = some (.cells #[v0, v1, v2] t fz)) : w.cell? ⟨b, 0, none⟩ = some v0 ∧ w.cell? ⟨b, 1, none⟩ = some v1 ∧ w.cell? ⟨b, 2, none⟩ = some v2 := by
  refine ⟨?_, ?_, ?_⟩ <;> (rw [Lib.cell_of_heap h]; rfl)
/-- One more attribute. -/
theorem Rb.more {w : World} {E : Nat} {nm : ByteArray} {em : Bool} {l0 rest be : B8} {out : List At} {v : Value} {a : At} {w3 w4 : World} {o1 : Obj} {g cap : Nat} (h : Rb w E nm em l0 rest out v w3)
    (h1 : rest.dropWhile bk ≠ []) (h2 : cutAttr (rest.dropWhile bk) = some (a, be)) (h3 : (rest.dropWhile bk).length ≠ rest.length)
    (hown : w4.ownsRow (E + 1) 81 2 (.slice (some ⟨g, 0, none⟩) (out.length + 1) cap) (out.length + 1) (cellsA out ++ [.string a.1, .string a.2])) (hg : (w3.alloc o1).grownBy w4 v.ownBlock) :
    Rb w E nm em l0 be (out ++ [a]) (.slice (some ⟨g, 0, none⟩) (out.length + 1) cap) (w4.setCell ⟨E, 1, none⟩ (.slice (some ⟨g, 0, none⟩) (out.length + 1) cap)) := by
  have hs : w.heap.size < w3.heap.size := heap_lt h.rb
  have hs1 : E < w3.heap.size := heap_lt h.eb
  have hne := h.ne
  have hlow : ∀ b, v.ownBlock = some b → E + 1 ≤ b := own_lt h.own
  have h4 := cutAttr_len h2
  have h5 := drop_le rest
  have hE : w4.heap[E]? = some (.cells #[.string nm, v, .bool em] 159 (0, 0)) := (hg.block _ (by simp; omega) (by intro e; have := hlow _ e.symm; omega)).trans ((Below.heap_alloc _ _ _ hs1).trans h.eb)
  refine ⟨?_, ?_, ?_, hne, ?_, ?_, by have := h.len; simp; omega⟩
  · rw [cellsA_append, cellsA_one, List.length_append]
    exact ownsRow_setCell_below hown (by show E < E + 1; omega) _
  · refine (Below.heap_setCell _ _ _ _ (by show w.heap.size ≠ E; omega)).trans ((hg.block _ (by simp; omega) (by intro e; have := hlow _ e.symm; omega)).trans ((Below.heap_alloc _ _ _ hs).trans h.rb))
  · simp [World.setCell, Array.getElem?_modify, hE]
  · refine Below.setCell ((h.bel.alloc (by omega) _).grown hg (by simp; omega) (fun b hb => ?_)) (by show w.heap.size ≤ E; omega) _
    have := hlow b hb
    omega
  · rw [h.q, raws_more h1 h2 h3, Option.map_map]
    congr 1
    funext m
    simp
theorem brb {w : World} {E : Nat} {nm : ByteArray} {em : Bool} {l0 rest : B8} {out : List At} {v : Value} {wr : World} (h : Rb w E nm em l0 rest out v wr) :
    (wr.cell? ⟨w.heap.size, 0, none⟩ = some (.string ⟨#[]⟩) ∧ wr.cell? ⟨w.heap.size, 1, none⟩ = some (.slice none 0 0) ∧ wr.cell? ⟨w.heap.size, 2, none⟩ = some (.bool false)) ∧
    (wr.cell? ⟨E, 0, none⟩ = some (.string nm) ∧ wr.cell? ⟨E, 1, none⟩ = some v ∧ wr.cell? ⟨E, 2, none⟩ = some (.bool em)) ∧
    (∀ i, wr.frozen? ⟨w.heap.size, i, none⟩ = false) ∧ (∀ i, wr.frozen? ⟨E, i, none⟩ = false) :=
  ⟨bx3 h.rb, bx3 h.eb, fun i => Lib.frozen_of_heap h.rb i, fun i => Lib.frozen_of_heap h.eb i⟩
/-- What readBeginning makes of a name and what stands behind it. -/
theorem readBg_no {t : B8} (h : full ((inner2 t).takeWhile (fun c => !bk c)) = false) : readBg t = none := by unfold readBg; rw [if_neg (by rw [h]; exact Bool.false_ne_true)]
theorem readBg_yes {t : B8} (h : full ((inner2 t).takeWhile (fun c => !bk c)) = true) : readBg t = (raws ((inner2 t).dropWhile (fun c => !bk c))).map fun l => ⟨mk ((inner2 t).takeWhile (fun c => !bk c)), l, isEmp t⟩ := by unfold readBg; rw [if_pos h]
end Go.Proofs.YtolnpfcncmcacaaGreatDoor

/- The contract of scan.readBeginning, walked: what a tag begins. Condition: the tag is a text of at most 1048576 bytes. -/
namespace Go.Proofs.YtolnpfcncmcacaaGreatDoor
open Go.RowKit Go.Lib Go.Shelf Tg Sn

set_option maxRecDepth 100000 in
set_option maxHeartbeats 8000000 in
theorem readBeginning_any (s : ByteArray) (w : World) (hs : s.size ≤ 1048576) (h2 : 2 ≤ s.size) {cs : List Nat} (ht : Sg.IsT (inner2 s.data.toList) cs) :
    Calls Tryz.prog 107 #[.string s] w (RbP (readBg s.data.toList) w) := by
  have HX := Lib.hid (ext_mid s 1)
  obtain ⟨e1, e2⟩ := in2 s.data.toList
  have C := Lib.hid (fun W => cutSuffix_any (mk (Sn.inner s.data.toList)) ⟨#[47]⟩ W (by rw [Sn.mk_size]; unfold Sn.inner; simp; omega))
  rw [Sn.mk_list] at C
  change Hid (∀ W, Calls Tryz.prog 138 #[.string (mk (Sn.inner s.data.toList)), .string ⟨#[47]⟩] W fun e w' => e = .returned (.tuple #[.string (mk (Lib.trimSuffix (Sn.inner s.data.toList) [47])), .bool (Lib.hasSuffix (Sn.inner s.data.toList) [47])]) ∧ Below W.heap.size W w') at C
  rw [e1, e2] at C
  have hil := inner_len s.data.toList
  rw [By.len_size] at hil
  have I := Lib.hid (fun W => indexAny_bk (mk (inner2 s.data.toList)) W (by rw [Sn.mk_size]; omega) (by rw [Sn.mk_list]; exact ht))
  rw [Sn.mk_list] at I
  change Hid (s.extract 1 (s.size - 1) = mk (Sn.inner s.data.toList)) at HX
  have HNO := Lib.hid (fun h => readBg_no (t := s.data.toList) h)
  have HYES := Lib.hid (fun h => readBg_yes (t := s.data.toList) h)
  have F := Lib.hid (fun W => isFull_mk ((inner2 s.data.toList).takeWhile (fun c => !bk c)) W (by have := (List.takeWhile_sublist (l := inner2 s.data.toList) (fun c => !bk c)).length_le; omega))
  have hrl : ((inner2 s.data.toList).dropWhile (fun c => !bk c)).length ≤ 1048576 := by have := (List.dropWhile_sublist (l := inner2 s.data.toList) (fun c => !bk c)).length_le; omega
  have HTD := Lib.hid (take_drop_while (inner2 s.data.toList) (fun c => !bk c))
  have HTN := Lib.hid (fun h => take_none (l := inner2 s.data.toList) h)
  have HTL := Lib.hid (List.takeWhile_sublist (l := inner2 s.data.toList) (fun c => !bk c)).length_le
  have HIX : Hid (ixa (inner2 s.data.toList) = if (inner2 s.data.toList).any bk then (((inner2 s.data.toList).takeWhile (fun c => !bk c)).length : Int) else -1) := rfl
  generalize readBg s.data.toList = RES at HNO HYES ⊢
  generalize isEmp s.data.toList = em at C HYES
  generalize mk (Sn.inner s.data.toList) = I1 at HX C
  generalize hI2 : inner2 s.data.toList = i2 at C I F HNO HYES HTD HTN HTL HIX hrl hil ht
  have HE1 := Lib.hid (ext_take (mk i2) (i2.takeWhile (fun c => !bk c)).length)
  have HE2 := Lib.hid (ext_drop (mk i2) (i2.takeWhile (fun c => !bk c)).length)
  rw [Sn.mk_list, HTD.out.1] at HE1
  rw [Sn.mk_list, HTD.out.2] at HE2
  have HI2S := Lib.hid (Sn.mk_size i2)
  have HML := Lib.hid (mk_of (mk i2))
  generalize hnm : i2.takeWhile (fun c => !bk c) = nm at F HNO HYES HTN HTL HIX HE1 HE2
  generalize hrs : i2.dropWhile (fun c => !bk c) = rs at HYES HTN HE2 hrl
  have g1 : IntKind.i64.wrap ((s.size : Int) - 1) = (s.size : Int) - 1 := IntWalk.i64_in _ (by omega)
  have g2 : ((s.size : Int) - 1).toNat = s.size - 1 := by omega
  have g3 : (0 : Int) ≤ (s.size : Int) - 1 := by omega
  have g4 : (1 : Int) ≤ (s.size : Int) - 1 := by omega
  have g5 : (s.size : Int) - 1 ≤ (s.size : Int) := by omega
  have HB0 : Hid (Below w.heap.size w (w.alloc (.cells #[.string ⟨#[]⟩, .slice none 0 0, .bool false] 159))) := (Below.refl _ _).alloc (Nat.le_refl _) _
  have HX0 := Lib.hid (box_new w #[.string ⟨#[]⟩, .slice none 0 0, .bool false] 159)
  have TLA := Lib.hid (fun (x : ByteArray) W => trimLeft_any x W)
  have CAA := Lib.hid (fun (x : ByteArray) W hx => cutAttr_any x W hx)
  clear e1 e2 hI2 hnm hrs HTD ht
  cases hany : i2.any bk with
  | false =>
    obtain ⟨q1, q2⟩ := HTN.out hany
    subst q1
    have HRS := Lib.hid q2
    clear q2
    rw [hany] at HIX
    simp only [Bool.false_eq_true, if_false] at HIX
    clear hany HTN
    go_enter Tryz.func107, Tryz.ntmps107
    go_wp2_with fail
    rw [HX.out]
    refine (C.out _).mono ?_
    rintro r w1 ⟨rfl, hb⟩
    have HB1 := Lib.hid (HB0.out.trans (hb.mono HB0.out.size))
    have HX1 := Lib.hid ((hb.block _ (heap_lt HX0.out)).trans HX0.out)
    clear hb C HX
    go_wp2_with fail
    refine (I.out _).mono ?_
    rintro r w2 ⟨rfl, hb⟩
    have HB2 := Lib.hid (HB1.out.trans (hb.mono HB1.out.size))
    have HX2 := Lib.hid ((hb.block _ (heap_lt HX1.out)).trans HX1.out)
    clear hb I HB0 HX0 HB1 HX1
    rw [HIX.out]
    have HBW := HB2
    have HXW := HX2
    clear HB2 HX2
    go_wp2_with fail
    clear g1 g2 g3 g4 g5
    cases hf : full nm with
    | false =>
      have HN := Lib.hid (HNO.out hf)
      rw [hf] at F
      clear hf HNO HYES
      go_wp2_with fail
      refine (F.out _).mono ?_
      rintro r w3 ⟨rfl, hb⟩
      have HB3 := Lib.hid (HBW.out.trans (hb.mono HBW.out.size))
      have HX3 := Lib.hid ((hb.block _ (heap_lt HXW.out)).trans HXW.out)
      clear hb
      obtain ⟨x0, x1, x2⟩ := bx3 HX3.out
      have f0 := Lib.frozen_of_heap HX3.out 0
      have f1 := Lib.frozen_of_heap HX3.out 1
      have f2 := Lib.frozen_of_heap HX3.out 2
      go_wp2_with fail
      exact bodyPost_ret (v := .tuple #[.agg #[.string ⟨#[]⟩, .slice none 0 0, .bool false], .bool false]) (by simp [results, Tryz.results107, go_sem, x0, x1, x2]) rfl (RbP.bad HN.out rfl (((HB3.out.setCell (Nat.le_refl _) _).setCell (Nat.le_refl _) _).setCell (Nat.le_refl _) _))
    | true =>
      have HN := Lib.hid (HYES.out hf)
      rw [hf] at F
      clear hf HNO HYES
      generalize hNM : mk nm = NM at F HE1 HN
      go_wp2_with fail
      refine (F.out _).mono ?_
      rintro r w3 ⟨rfl, hb⟩
      have HB3 := Lib.hid (HBW.out.trans (hb.mono HBW.out.size))
      have HX3 := Lib.hid ((hb.block _ (heap_lt HXW.out)).trans HXW.out)
      clear hb F HBW HXW
      have HR0 : Hid (Rb w w3.heap.size NM em rs rs [] (.slice none 0 0) (w3.alloc (.cells #[.string NM, .slice none 0 0, .bool em] 159))) :=
        ⟨World.ownsRow_nil _ _ _ _, (Below.heap_alloc _ _ _ (heap_lt HX3.out)).trans HX3.out, box_new w3 _ _, heap_lt HX3.out, HB3.out.alloc HB3.out.size _, by cases h : raws rs <;> simp, by simp⟩
      go_wp2_with fail
      generalize w3.alloc (.cells #[.string NM, .slice none 0 0, .bool em] 159) = W0 at HR0 ⊢
      generalize w3.heap.size = E at HR0 ⊢
      clear HB3 HX3 HE1 HE2 HI2S HTL hil
      go_loopw [7] (fun v wr => ∃ (x : ByteArray) (out : List At) (sl : Value), v = .string x ∧ Hid (Rb w E NM em rs x.data.toList out sl wr)) (fun v _ => strLen v)
      case atStart => exact ⟨_, [], _, rfl, by have := HR0.out; rw [HRS.out] at this ⊢; exact this⟩
      case round =>
        obtain ⟨x, out, sl, rfl, HR⟩ := hrel
        clear HR0
        obtain ⟨va, vc, rfl⟩ := own_form HR.out.own
        have hlen := HR.out.len
        rw [By.len_size] at hlen
        have T := Lib.hid (TLA.out x wr)
        have hdl := drop_le x.data.toList
        rw [By.len_size] at hdl
        have CA := Lib.hid (fun W => CAA.out (mk (x.data.toList.dropWhile bk)) W (by rw [Sn.mk_size]; omega))
        rw [Sn.mk_list] at CA
        have HDL := Lib.hid (mk_list (x.data.toList.dropWhile bk))
        have hds := Sn.mk_size (x.data.toList.dropWhile bk)
        have HMS : Hid (mk (x.data.toList.dropWhile bk) = mk (x.data.toList.dropWhile bk)) := rfl
        by_cases hemp : x.data.toList.dropWhile bk = []
        · have HRE : Hid (RES = some ⟨NM, out, em⟩) := by
            show _ = _
            rw [HN.out, HR.out.q, raws_end hemp]
            simp
          rw [hemp] at T
          change Hid (Calls Tryz.prog 139 #[.string x, .string ⟨#[32, 9, 10, 13]⟩] wr fun e w' => e = .returned (.string ⟨#[]⟩) ∧ Below wr.heap.size wr w') at T
          clear CA HDL hds hemp hdl HMS
          go_wp2_with fail
          refine T.out.mono ?_
          rintro r w4 ⟨rfl, hb⟩
          have HR1 := Lib.hid (HR.out.call hb)
          clear hb T HR
          obtain ⟨⟨r0, r1, r2⟩, ⟨b0, b1, b2⟩, fr, fe⟩ := brb HR1.out
          have fr0 := fr 0
          have fr1 := fr 1
          have fr2 := fr 2
          have HFI : Hid (SlA (fun k => w.heap.size ≤ k) (((w4.setCell ⟨w.heap.size, 0, none⟩ (.string NM)).setCell ⟨w.heap.size, 1, none⟩ (.slice va out.length vc)).setCell ⟨w.heap.size, 2, none⟩ (.bool em)) (.slice va out.length vc) out) := by
            have hne := HR1.out.ne
            refine ((SlA.own HR1.out.own).keep (fun b hb _ => ?_)).weak (fun b _ hb => by omega)
            exact (Below.heap_setCell _ _ _ _ (by show b ≠ w.heap.size; omega)).trans ((Below.heap_setCell _ _ _ _ (by show b ≠ w.heap.size; omega)).trans (Below.heap_setCell _ _ _ _ (by show b ≠ w.heap.size; omega)))
          have HNE := Lib.hid HR1.out.ne
          have hne2 : ¬ (E = w.heap.size) := by have := HNE.out; omega
          clear fr fe
          go_wp2_with fail
          exact bodyPost_ret (v := .tuple #[.agg #[.string NM, .slice va out.length vc, .bool em], .bool true]) (by simp [results, Tryz.results107, go_sem, r0, r1, r2]) rfl (RbP.good _ HRE.out rfl HFI.out (((HR1.out.bel.setCell (Nat.le_refl _) _).setCell (Nat.le_refl _) _).setCell (Nat.le_refl _) _))
        · obtain ⟨m1, m2, m3⟩ := nil_ne (a := mk (x.data.toList.dropWhile bk)) (by rw [HDL.out]; exact hemp)
          have HEM := Lib.hid hemp
          rcases hca : cutAttr (x.data.toList.dropWhile bk) with _ | ⟨a, be⟩
          · have HRE : Hid (RES = none) := by
              show _ = _
              rw [HN.out, HR.out.q, raws_none hemp hca]; rfl
            rw [hca] at CA
            unfold cav at CA
            simp only at CA
            clear HDL hemp HEM hca hdl HMS
            generalize mk (x.data.toList.dropWhile bk) = DX at T CA m1 m2 m3 hds
            go_wp2_with fail
            refine T.out.mono ?_
            rintro r w4 ⟨rfl, hb⟩
            have HR1 := Lib.hid (HR.out.call hb)
            clear hb T HR
            go_wp2_with fail
            refine (CA.out _).mono ?_
            rintro r w5 ⟨rfl, hb⟩
            have HR2 := Lib.hid (HR1.out.call (((Below.refl _ _)).trans hb))
            clear hb CA HR1
            obtain ⟨⟨r0, r1, r2⟩, ⟨b0, b1, b2⟩, fr, fe⟩ := brb HR2.out
            have fr0 := fr 0
            have fr1 := fr 1
            have fr2 := fr 2
            have hlt := heap_lt HR2.out.rb
            clear fr fe
            go_wp2_with fail
            exact bodyPost_ret (v := .tuple #[.agg #[.string ⟨#[]⟩, .slice none 0 0, .bool false], .bool false]) (by simp [results, Tryz.results107, go_sem, r0, r1, r2, hlt]) rfl (RbP.bad HRE.out rfl ((((HR2.out.bel.setCell (Nat.le_refl _) _).setCell (Nat.le_refl _) _).setCell (Nat.le_refl _) _).alloc (by have := heap_lt HR2.out.rb; simp [World.setCell] at this ⊢; omega) _))
          · have hcl := cutAttr_len hca
            rw [hca] at CA
            unfold cav at CA
            simp only at CA
            by_cases hgl : (x.data.toList.dropWhile bk).length = x.data.toList.length
            · have HRE : Hid (RES = none) := by
                show _ = _
                rw [HN.out, HR.out.q, raws_glued hemp hca hgl]; rfl
              have hge : (((mk (x.data.toList.dropWhile bk)).size : Int) == (x.size : Int)) = true := by rw [beq_iff_eq, hds, hgl, By.len_size]
              clear HDL hemp HEM hca hdl hgl hcl HMS
              generalize mk (x.data.toList.dropWhile bk) = DX at T CA m1 m2 m3 hds hge
              generalize mk be = BE at CA
              clear hds
              go_wp2_with fail
              refine T.out.mono ?_
              rintro r w4 ⟨rfl, hb⟩
              have HR1 := Lib.hid (HR.out.call hb)
              clear hb T HR
              go_wp2_with fail
              refine (CA.out _).mono ?_
              rintro r w5 ⟨rfl, hb⟩
              have HR2 := Lib.hid (HR1.out.call (((Below.refl _ _)).trans hb))
              clear hb CA HR1
              obtain ⟨⟨r0, r1, r2⟩, ⟨b0, b1, b2⟩, fr, fe⟩ := brb HR2.out
              have fr0 := fr 0
              have fr1 := fr 1
              have fr2 := fr 2
              have hlt := heap_lt HR2.out.rb
              clear fr fe
              go_wp2_with fail
              exact bodyPost_ret (v := .tuple #[.agg #[.string ⟨#[]⟩, .slice none 0 0, .bool false], .bool false]) (by simp [results, Tryz.results107, go_sem, r0, r1, r2, hlt]) rfl (RbP.bad HRE.out rfl ((((HR2.out.bel.setCell (Nat.le_refl _) _).setCell (Nat.le_refl _) _).setCell (Nat.le_refl _) _).alloc (by have := heap_lt HR2.out.rb; simp [World.setCell] at this ⊢; omega) _))
            · have hge : (((mk (x.data.toList.dropWhile bk)).size : Int) == (x.size : Int)) = false := by rw [beq_eq_false_iff_ne, hds]; rw [By.len_size] at hgl; omega
              have HMO := Lib.hid (fun (w3 w4 : World) o1 g cap (h : Rb w E NM em rs x.data.toList out (.slice va out.length vc) w3) hown hg => h.more (w4 := w4) (o1 := o1) (g := g) (cap := cap) hemp hca hgl hown hg)
              have HBL := Lib.hid (mk_list be)
              have HME : Hid (strLen (.string (mk be)) < strLen (.string x)) := by show (mk be).size < x.size; rw [Sn.mk_size]; omega
              clear HDL hemp HEM hca hdl hgl hcl HMS
              generalize mk (x.data.toList.dropWhile bk) = DX at T CA m1 m2 m3 hds hge
              generalize mk be = BE at CA HBL HME
              clear hds
              obtain ⟨i0, hi0, hz0, hz1, hz2⟩ := info_parts infoAttr
              go_wp2_with fail
              refine T.out.mono ?_
              rintro r w4 ⟨rfl, hb⟩
              have HR1 := Lib.hid (HR.out.call hb)
              clear hb T HR
              go_wp2_with fail
              refine (CA.out _).mono ?_
              rintro r w5 ⟨rfl, hb⟩
              have HR2 := Lib.hid ((HR1.out.call hb).call ((Below.refl _ w5).alloc (Nat.le_refl _) (.cells #[.string a.1, .string a.2] 81)))
              have HXA := Lib.hid (box_new w5 #[.string a.1, .string a.2] 81)
              clear hb CA HR1
              obtain ⟨⟨r0, r1, r2⟩, ⟨b0, b1, b2⟩, fr, fe⟩ := brb HR2.out
              obtain ⟨xa0, xa1⟩ := bx2 HXA.out
              have fe1 := fe 1
              clear fr fe r0 r1 r2
              go_wp2_with (at_builtin; go_loud (refine wpList_append_lies _ rfl _ _ 46 rfl (E + 1) 81 i0 _ 2 32 Tryz.underlying46 hi0 hz0 hz1 hz2 rfl (by decide) _ out.length (cellsA out) rfl (HR2.out.own.alloc _) ⟨w5.heap.size + 1, 0, none⟩ 1 1 [.string a.1, .string a.2] (by first | rfl | simp) rfl (World.news_of_block (cs := #[.string a.1, .string a.2]) (t := 81) (fr := (0, 0)) (by simpa using heap_alloc_new (w5.alloc (.cells #[.string a.1, .string a.2] 81)) (.cells #[.string a.1, .string a.2] 81))) (by simp [Value.oneCell']) (by decide) (by unfold maxLen; omega) (by omega) (by have := heap_lt HR2.out.eb; simp at this ⊢; omega) _ rfl ?_; intro g cap w6 hown hgrow hat hlt6; have HR3 := Lib.hid (HMO.out _ w6 _ g cap HR2.out hown hgrow); have HE6 := Lib.hid ((hgrow.block E (by have := heap_lt HR2.out.eb; simp at this; simp; omega) (by intro e; have := own_lt HR2.out.own _ e.symm; omega)).trans ((Below.heap_alloc _ _ _ (heap_lt HR2.out.eb)).trans HR2.out.eb)); have c6 : w6.cell? ⟨E, 1, none⟩ = some (.slice va out.length vc) := (by rw [Lib.cell_of_heap HE6.out]; rfl); have f6 : w6.frozen? ⟨E, 1, none⟩ = false := Lib.frozen_of_heap HE6.out 1; clear hown hgrow hat hlt6 b0 b1 b2 xa0 xa1 fe1))
              go_roundw
              case rel => exact ⟨BE, _, _, rfl, by rw [HBL.out]; exact HR3.out⟩
              case measure => exact HME.out
  | true =>
    rw [hany] at HIX
    simp only [if_true] at HIX
    generalize nm.length = kk at HIX HTL HE1 HE2
    have hk : kk ≤ (mk i2).size := by have := HTL.out; rw [HI2S.out]; exact this
    have k1 : (0 : Int) ≤ (kk : Int) := by omega
    have k2 : (kk : Int) ≤ ((mk i2).size : Int) := by omega
    clear hany HTN
    generalize mk i2 = II at C I HE1 HE2 hk k2 HI2S HML
    go_enter Tryz.func107, Tryz.ntmps107
    go_wp2_with fail
    rw [HX.out]
    refine (C.out _).mono ?_
    rintro r w1 ⟨rfl, hb⟩
    have HB1 := Lib.hid (HB0.out.trans (hb.mono HB0.out.size))
    have HX1 := Lib.hid ((hb.block _ (heap_lt HX0.out)).trans HX0.out)
    clear hb C HX
    go_wp2_with fail
    refine (I.out _).mono ?_
    rintro r w2 ⟨rfl, hb⟩
    have HB2 := Lib.hid (HB1.out.trans (hb.mono HB1.out.size))
    have HX2 := Lib.hid ((hb.block _ (heap_lt HX1.out)).trans HX1.out)
    clear hb I HB0 HX0 HB1 HX1
    rw [HIX.out]
    go_wp2_with fail
    go_quiet (fail)
    rw [HE1.out, HE2.out]
    have HBW := Lib.hid (HB2.out.trans ((bel_drew w2 nq).mono HB2.out.size))
    have HXW : Hid ((w2.drewN nq).heap[w.heap.size]? = _) := HX2.out
    generalize w2.drewN nq = W2 at HBW HXW ⊢
    clear HB2 HX2 k1 k2 hk
    go_wp2_with fail
    clear g1 g2 g3 g4 g5
    cases hf : full nm with
    | false =>
      have HN := Lib.hid (HNO.out hf)
      rw [hf] at F
      clear hf HNO HYES
      go_wp2_with fail
      refine (F.out _).mono ?_
      rintro r w3 ⟨rfl, hb⟩
      have HB3 := Lib.hid (HBW.out.trans (hb.mono HBW.out.size))
      have HX3 := Lib.hid ((hb.block _ (heap_lt HXW.out)).trans HXW.out)
      clear hb
      obtain ⟨x0, x1, x2⟩ := bx3 HX3.out
      have f0 := Lib.frozen_of_heap HX3.out 0
      have f1 := Lib.frozen_of_heap HX3.out 1
      have f2 := Lib.frozen_of_heap HX3.out 2
      go_wp2_with fail
      exact bodyPost_ret (v := .tuple #[.agg #[.string ⟨#[]⟩, .slice none 0 0, .bool false], .bool false]) (by simp [results, Tryz.results107, go_sem, x0, x1, x2]) rfl (RbP.bad HN.out rfl (((HB3.out.setCell (Nat.le_refl _) _).setCell (Nat.le_refl _) _).setCell (Nat.le_refl _) _))
    | true =>
      have HN := Lib.hid (HYES.out hf)
      rw [hf] at F
      clear hf HNO HYES
      generalize hNM : mk nm = NM at F HE1 HN
      go_wp2_with fail
      refine (F.out _).mono ?_
      rintro r w3 ⟨rfl, hb⟩
      have HB3 := Lib.hid (HBW.out.trans (hb.mono HBW.out.size))
      have HX3 := Lib.hid ((hb.block _ (heap_lt HXW.out)).trans HXW.out)
      clear hb F HBW HXW
      have HR0 : Hid (Rb w w3.heap.size NM em rs rs [] (.slice none 0 0) (w3.alloc (.cells #[.string NM, .slice none 0 0, .bool em] 159))) :=
        ⟨World.ownsRow_nil _ _ _ _, (Below.heap_alloc _ _ _ (heap_lt HX3.out)).trans HX3.out, box_new w3 _ _, heap_lt HX3.out, HB3.out.alloc HB3.out.size _, by cases h : raws rs <;> simp, by simp⟩
      go_wp2_with fail
      generalize w3.alloc (.cells #[.string NM, .slice none 0 0, .bool em] 159) = W0 at HR0 ⊢
      generalize w3.heap.size = E at HR0 ⊢
      clear HB3 HX3 HE1 HE2 HI2S HTL hil
      go_loopw [7] (fun v wr => ∃ (x : ByteArray) (out : List At) (sl : Value), v = .string x ∧ Hid (Rb w E NM em rs x.data.toList out sl wr)) (fun v _ => strLen v)
      case atStart => exact ⟨_, [], _, rfl, by have := HR0.out; rw [Sn.mk_list]; exact this⟩
      case round =>
        obtain ⟨x, out, sl, rfl, HR⟩ := hrel
        clear HR0
        obtain ⟨va, vc, rfl⟩ := own_form HR.out.own
        have hlen := HR.out.len
        rw [By.len_size] at hlen
        have T := Lib.hid (TLA.out x wr)
        have hdl := drop_le x.data.toList
        rw [By.len_size] at hdl
        have CA := Lib.hid (fun W => CAA.out (mk (x.data.toList.dropWhile bk)) W (by rw [Sn.mk_size]; omega))
        rw [Sn.mk_list] at CA
        have HDL := Lib.hid (mk_list (x.data.toList.dropWhile bk))
        have hds := Sn.mk_size (x.data.toList.dropWhile bk)
        have HMS : Hid (mk (x.data.toList.dropWhile bk) = mk (x.data.toList.dropWhile bk)) := rfl
        by_cases hemp : x.data.toList.dropWhile bk = []
        · have HRE : Hid (RES = some ⟨NM, out, em⟩) := by
            show _ = _
            rw [HN.out, HR.out.q, raws_end hemp]
            simp
          rw [hemp] at T
          change Hid (Calls Tryz.prog 139 #[.string x, .string ⟨#[32, 9, 10, 13]⟩] wr fun e w' => e = .returned (.string ⟨#[]⟩) ∧ Below wr.heap.size wr w') at T
          clear CA HDL hds hemp hdl HMS
          go_wp2_with fail
          refine T.out.mono ?_
          rintro r w4 ⟨rfl, hb⟩
          have HR1 := Lib.hid (HR.out.call hb)
          clear hb T HR
          obtain ⟨⟨r0, r1, r2⟩, ⟨b0, b1, b2⟩, fr, fe⟩ := brb HR1.out
          have fr0 := fr 0
          have fr1 := fr 1
          have fr2 := fr 2
          have HFI : Hid (SlA (fun k => w.heap.size ≤ k) (((w4.setCell ⟨w.heap.size, 0, none⟩ (.string NM)).setCell ⟨w.heap.size, 1, none⟩ (.slice va out.length vc)).setCell ⟨w.heap.size, 2, none⟩ (.bool em)) (.slice va out.length vc) out) := by
            have hne := HR1.out.ne
            refine ((SlA.own HR1.out.own).keep (fun b hb _ => ?_)).weak (fun b _ hb => by omega)
            exact (Below.heap_setCell _ _ _ _ (by show b ≠ w.heap.size; omega)).trans ((Below.heap_setCell _ _ _ _ (by show b ≠ w.heap.size; omega)).trans (Below.heap_setCell _ _ _ _ (by show b ≠ w.heap.size; omega)))
          have HNE := Lib.hid HR1.out.ne
          have hne2 : ¬ (E = w.heap.size) := by have := HNE.out; omega
          clear fr fe
          go_wp2_with fail
          exact bodyPost_ret (v := .tuple #[.agg #[.string NM, .slice va out.length vc, .bool em], .bool true]) (by simp [results, Tryz.results107, go_sem, r0, r1, r2]) rfl (RbP.good _ HRE.out rfl HFI.out (((HR1.out.bel.setCell (Nat.le_refl _) _).setCell (Nat.le_refl _) _).setCell (Nat.le_refl _) _))
        · obtain ⟨m1, m2, m3⟩ := nil_ne (a := mk (x.data.toList.dropWhile bk)) (by rw [HDL.out]; exact hemp)
          have HEM := Lib.hid hemp
          rcases hca : cutAttr (x.data.toList.dropWhile bk) with _ | ⟨a, be⟩
          · have HRE : Hid (RES = none) := by
              show _ = _
              rw [HN.out, HR.out.q, raws_none hemp hca]; rfl
            rw [hca] at CA
            unfold cav at CA
            simp only at CA
            clear HDL hemp HEM hca hdl HMS
            generalize mk (x.data.toList.dropWhile bk) = DX at T CA m1 m2 m3 hds
            go_wp2_with fail
            refine T.out.mono ?_
            rintro r w4 ⟨rfl, hb⟩
            have HR1 := Lib.hid (HR.out.call hb)
            clear hb T HR
            go_wp2_with fail
            refine (CA.out _).mono ?_
            rintro r w5 ⟨rfl, hb⟩
            have HR2 := Lib.hid (HR1.out.call (((Below.refl _ _)).trans hb))
            clear hb CA HR1
            obtain ⟨⟨r0, r1, r2⟩, ⟨b0, b1, b2⟩, fr, fe⟩ := brb HR2.out
            have fr0 := fr 0
            have fr1 := fr 1
            have fr2 := fr 2
            have hlt := heap_lt HR2.out.rb
            clear fr fe
            go_wp2_with fail
            exact bodyPost_ret (v := .tuple #[.agg #[.string ⟨#[]⟩, .slice none 0 0, .bool false], .bool false]) (by simp [results, Tryz.results107, go_sem, r0, r1, r2, hlt]) rfl (RbP.bad HRE.out rfl ((((HR2.out.bel.setCell (Nat.le_refl _) _).setCell (Nat.le_refl _) _).setCell (Nat.le_refl _) _).alloc (by have := heap_lt HR2.out.rb; simp [World.setCell] at this ⊢; omega) _))
          · have hcl := cutAttr_len hca
            rw [hca] at CA
            unfold cav at CA
            simp only at CA
            by_cases hgl : (x.data.toList.dropWhile bk).length = x.data.toList.length
            · have HRE : Hid (RES = none) := by
                show _ = _
                rw [HN.out, HR.out.q, raws_glued hemp hca hgl]; rfl
              have hge : (((mk (x.data.toList.dropWhile bk)).size : Int) == (x.size : Int)) = true := by rw [beq_iff_eq, hds, hgl, By.len_size]
              clear HDL hemp HEM hca hdl hgl hcl HMS
              generalize mk (x.data.toList.dropWhile bk) = DX at T CA m1 m2 m3 hds hge
              generalize mk be = BE at CA
              clear hds
              go_wp2_with fail
              refine T.out.mono ?_
              rintro r w4 ⟨rfl, hb⟩
              have HR1 := Lib.hid (HR.out.call hb)
              clear hb T HR
              go_wp2_with fail
              refine (CA.out _).mono ?_
              rintro r w5 ⟨rfl, hb⟩
              have HR2 := Lib.hid (HR1.out.call (((Below.refl _ _)).trans hb))
              clear hb CA HR1
              obtain ⟨⟨r0, r1, r2⟩, ⟨b0, b1, b2⟩, fr, fe⟩ := brb HR2.out
              have fr0 := fr 0
              have fr1 := fr 1
              have fr2 := fr 2
              have hlt := heap_lt HR2.out.rb
              clear fr fe
              go_wp2_with fail
              exact bodyPost_ret (v := .tuple #[.agg #[.string ⟨#[]⟩, .slice none 0 0, .bool false], .bool false]) (by simp [results, Tryz.results107, go_sem, r0, r1, r2, hlt]) rfl (RbP.bad HRE.out rfl ((((HR2.out.bel.setCell (Nat.le_refl _) _).setCell (Nat.le_refl _) _).setCell (Nat.le_refl _) _).alloc (by have := heap_lt HR2.out.rb; simp [World.setCell] at this ⊢; omega) _))
            · have hge : (((mk (x.data.toList.dropWhile bk)).size : Int) == (x.size : Int)) = false := by rw [beq_eq_false_iff_ne, hds]; rw [By.len_size] at hgl; omega
              have HMO := Lib.hid (fun (w3 w4 : World) o1 g cap (h : Rb w E NM em rs x.data.toList out (.slice va out.length vc) w3) hown hg => h.more (w4 := w4) (o1 := o1) (g := g) (cap := cap) hemp hca hgl hown hg)
              have HBL := Lib.hid (mk_list be)
              have HME : Hid (strLen (.string (mk be)) < strLen (.string x)) := by show (mk be).size < x.size; rw [Sn.mk_size]; omega
              clear HDL hemp HEM hca hdl hgl hcl HMS
              generalize mk (x.data.toList.dropWhile bk) = DX at T CA m1 m2 m3 hds hge
              generalize mk be = BE at CA HBL HME
              clear hds
              obtain ⟨i0, hi0, hz0, hz1, hz2⟩ := info_parts infoAttr
              go_wp2_with fail
              refine T.out.mono ?_
              rintro r w4 ⟨rfl, hb⟩
              have HR1 := Lib.hid (HR.out.call hb)
              clear hb T HR
              go_wp2_with fail
              refine (CA.out _).mono ?_
              rintro r w5 ⟨rfl, hb⟩
              have HR2 := Lib.hid ((HR1.out.call hb).call ((Below.refl _ w5).alloc (Nat.le_refl _) (.cells #[.string a.1, .string a.2] 81)))
              have HXA := Lib.hid (box_new w5 #[.string a.1, .string a.2] 81)
              clear hb CA HR1
              obtain ⟨⟨r0, r1, r2⟩, ⟨b0, b1, b2⟩, fr, fe⟩ := brb HR2.out
              obtain ⟨xa0, xa1⟩ := bx2 HXA.out
              have fe1 := fe 1
              clear fr fe r0 r1 r2
              go_wp2_with (at_builtin; go_loud (refine wpList_append_lies _ rfl _ _ 46 rfl (E + 1) 81 i0 _ 2 32 Tryz.underlying46 hi0 hz0 hz1 hz2 rfl (by decide) _ out.length (cellsA out) rfl (HR2.out.own.alloc _) ⟨w5.heap.size + 1, 0, none⟩ 1 1 [.string a.1, .string a.2] (by first | rfl | simp) rfl (World.news_of_block (cs := #[.string a.1, .string a.2]) (t := 81) (fr := (0, 0)) (by simpa using heap_alloc_new (w5.alloc (.cells #[.string a.1, .string a.2] 81)) (.cells #[.string a.1, .string a.2] 81))) (by simp [Value.oneCell']) (by decide) (by unfold maxLen; omega) (by omega) (by have := heap_lt HR2.out.eb; simp at this ⊢; omega) _ rfl ?_; intro g cap w6 hown hgrow hat hlt6; have HR3 := Lib.hid (HMO.out _ w6 _ g cap HR2.out hown hgrow); have HE6 := Lib.hid ((hgrow.block E (by have := heap_lt HR2.out.eb; simp at this; simp; omega) (by intro e; have := own_lt HR2.out.own _ e.symm; omega)).trans ((Below.heap_alloc _ _ _ (heap_lt HR2.out.eb)).trans HR2.out.eb)); have c6 : w6.cell? ⟨E, 1, none⟩ = some (.slice va out.length vc) := (by rw [Lib.cell_of_heap HE6.out]; rfl); have f6 : w6.frozen? ⟨E, 1, none⟩ = false := Lib.frozen_of_heap HE6.out 1; clear hown hgrow hat hlt6 b0 b1 b2 xa0 xa1 fe1))
              go_roundw
              case rel => exact ⟨BE, _, _, rfl, by rw [HBL.out]; exact HR3.out⟩
              case measure => exact HME.out
end Go.Proofs.YtolnpfcncmcacaaGreatDoor
