/- What the listed variables give: the steps at which a note is handed up, the two tables of digest; a world for the witness that holds them; a note, a Begin that came in. No condition beyond the rows' own lists. -/
import Derived.Test.YthbeempmdpfnmaaGreatDoorL2
import Derived.Test.YthbeempmdpfnmaaGreatDoorCards
import Derived.Test.YthbeempmdpfnmaaGreatDoorTie
import Derived.Lib.LaidU8
import Derived.Lib.LaidTab
import Derived.Lib.SmallJoins
import Derived.MakeChecks
import Derived.Lay
import Derived.ProofKit
import Derived.OpenShut
import Derived.ShutString
import Derived.ChangeOld
import Derived.SizedLaws
import Derived.Deep.DeepHandedRow
import Derived.Deep.Slices
namespace Go.Proofs.YthbeempmdpfnmaaGreatDoor
open Go Go.ChangeShapes Go.WideShapes Go.ChangeAt Go.RowKit Go.Lib
/-- The list that each row of this seat bears. -/
def tabs : List (String × DataW Unit) := Rows.sessionRunsRow.laid
end Go.Proofs.YthbeempmdpfnmaaGreatDoor
namespace Go.Proofs.YthbeempmdpfnmaaGreatDoor.M
open Go.ChangeShapes Go.WideShapes Go.ChangeAt Go.RowKit Go.Lib Go.Shelf By Dg
theorem sines_eq : (Rows.laid_wharf_digest_sines : DataW Unit) = tabData .u32 sines := by kernel_rfl
def row4 (k : Nat) : List Int := (List.range 4).map fun j => ((turnsL.getD (4 * k + j) 0 : Nat) : Int)
theorem turns_eq : (Rows.laid_wharf_digest_turns : DataW Unit) = .agg [tabData .i64 (row4 0), tabData .i64 (row4 1), tabData .i64 (row4 2), tabData .i64 (row4 3)] := by kernel_rfl
theorem cell_four {cs : List Value} (h : ∀ k, k < 4 → (cs.drop (k * 4)).take 4 = (row4 k).map fun z => Value.int .i64 z) {i : Nat} (hi : i < 16) : cs[i]? = some (.int .i64 ((turnsL.getD i 0 : Nat) : Int)) := by
  have h1 := congrArg (·[i % 4]?) (h (i / 4) (by omega))
  simp only [List.getElem?_take, List.getElem?_drop] at h1
  rw [if_pos (by omega), show i / 4 * 4 + i % 4 = i by omega] at h1
  rw [h1, row4, List.map_map, List.getElem?_map, List.getElem?_range (by omega)]
  simp only [Option.map_some, Function.comp_apply]
  rw [show 4 * (i / 4) + i % 4 = i by omega]
theorem gd_of {W : World} (h : laidMetH Tryz.prog tabs W) : Gd W := by
  have hL : laidMet Tryz.prog tabs W := by
    rw [MakeChecks.laidMetH_plain _ _ _ (by kernel_rfl)] at h
    exact h
  constructor
  · intro k hk
    obtain ⟨g, t, cs, fuel, p, hg, ht, hv, hd⟩ := Lib.laidMet.reads hL (n := "wharf/digest.sines") (d := Rows.laid_wharf_digest_sines) (.tail _ (.head _))
    have e1 : Tryz.prog.globalNamed "wharf/digest.sines" = some 1 := by kernel_rfl
    rw [e1] at hg
    cases hg
    have e2 : (Tryz.prog.globals[1]?).map (·.type) = some 114 := by kernel_rfl
    rw [e2] at ht
    cases ht
    rw [sines_eq] at hd
    have hc := cells_of_tab Tryz.underlying114 Tryz.underlying91 (by kernel_rfl) (by kernel_rfl) hd
    rw [World.var?_cell e1 hv k, ← Array.getElem?_toList, hc]
    have hk2 : k < sines.length := hk
    simp [kk, List.getD_eq_getElem?_getD, List.getElem?_eq_getElem hk2]
  · intro k hk
    obtain ⟨g, t, cs, fuel, p, hg, ht, hv, hd⟩ := Lib.laidMet.reads hL (n := "wharf/digest.turns") (d := Rows.laid_wharf_digest_turns) (.tail _ (.tail _ (.head _)))
    have e1 : Tryz.prog.globalNamed "wharf/digest.turns" = some 2 := by kernel_rfl
    rw [e1] at hg
    cases hg
    have e2 : (Tryz.prog.globals[2]?).map (·.type) = some 116 := by kernel_rfl
    rw [e2] at ht
    cases ht
    rw [turns_eq] at hd
    obtain ⟨xs, m, _, hx, _, hlen, hel⟩ := DataW.trod_array Tryz.underlying116 hd
    have hce : Tryz.prog.cellsOf 115 = 4 := by kernel_rfl
    rw [World.var?_cell e1 hv k, ← Array.getElem?_toList]
    refine cell_four (fun j hj => ?_) hk
    have h1 := hel j hj
    rw [hce] at h1
    have h2 : xs[j]? = some (xs[j]'(by omega)) := List.getElem?_eq_getElem _
    rw [h2] at h1
    have h3 : (xs.map (·.1))[j]? = some (tabData .i64 (row4 j)) := by
      have h5 : DataW.agg [tabData .i64 (row4 0), tabData .i64 (row4 1), tabData .i64 (row4 2), tabData .i64 (row4 3)] = DataW.agg (xs.map (·.1)) := congrArg Prod.fst hx
      rw [← DataW.agg.inj h5]
      have : j = 0 ∨ j = 1 ∨ j = 2 ∨ j = 3 := by omega
      rcases this with rfl | rfl | rfl | rfl <;> rfl
    rw [List.getElem?_map, h2, Option.map_some] at h3
    have h4 : (xs[j]'(by omega)) = (tabData .i64 (row4 j), (xs[j]'(by omega)).2) := Prod.ext (Option.some.inj h3) rfl
    rw [h4] at h1
    exact cells_of_tab Tryz.underlying115 Tryz.underlying3 (by kernel_rfl) hce h1
end Go.Proofs.YthbeempmdpfnmaaGreatDoor.M
namespace Go.Proofs.YthbeempmdpfnmaaGreatDoor.T
open Go.ChangeShapes Go.WideShapes Go.ChangeAt Go.RowKit Go.Lib

theorem own : ownKnob Tryz.prog.godebug = none := by kernel_rfl
theorem laidOut : laidOutB Tryz.prog = true := by kernel_rfl
def upN (i : Nat) : Int := [13, 14, 16, 18, 19, 25, 27, 29].getD i 0
theorem up_eq : (Rows.laid_wharf_session_upward : DataW Unit) = .agg ((List.range 8).map fun i => .agg ([5, upN i].map fun z => .lit (.int .i64 z))) := by kernel_rfl
theorem cSo : Tryz.prog.cellsOf 69 = 2 := by kernel_rfl
theorem cIo : Tryz.prog.cellsOf 3 = 1 := by kernel_rfl
theorem gl_of {W : World} (h : laidMetH Tryz.prog tabs W) : Gl W := by
  refine ⟨?_, M.gd_of h⟩
  have hL : laidMet Tryz.prog tabs W := by
    rw [MakeChecks.laidMetH_plain _ _ _ (by kernel_rfl)] at h
    exact h
  obtain ⟨g, t, cs, fuel, p, hg, ht, hv, hd⟩ := Lib.laidMet.reads hL (n := "wharf/session.upward") (d := Rows.laid_wharf_session_upward) (.tail _ (.tail _ (.tail _ (.head _))))
  have e1 : Tryz.prog.globalNamed "wharf/session.upward" = some 0 := by kernel_rfl
  rw [e1] at hg
  cases hg
  have e2 : (Tryz.prog.globals[0]?).map (·.type) = some 84 := by kernel_rfl
  rw [e2] at ht
  cases ht
  rw [up_eq] at hd
  have hw : ∀ i, i < 8 → ∀ j, j < 2 → W.cell? ⟨0, i * 2 + j, none⟩ = ([Value.int .i64 5, .int .i64 (upN i)] : List Value)[j]? := fun i hi j hj => by
    obtain ⟨fuel', d, q, hdi, he⟩ := Lib.array_elem Tryz.underlying84 hd i hi
    simp only [List.getElem?_map, List.getElem?_range hi, Option.map_some, Option.some.injEq] at hdi
    subst hdi
    rw [cSo] at he
    have hcs := Lib.ints_of_struct Tryz.underlying69 (fun j f hj => by
      match j, hj with
      | 0, hj => simp at hj; subst hj; exact ⟨Tryz.underlying3, rfl, cIo⟩
      | 1, hj => simp at hj; subst hj; exact ⟨Tryz.underlying3, rfl, cIo⟩
      | j + 2, hj => simp at hj) (by rw [cSo]; rfl) he
    have e0 := congrArg (·[j]?) hcs
    simp only [List.getElem?_take, List.getElem?_drop, if_pos hj] at e0
    rw [World.var?_cell e1 hv (i * 2 + j), ← Array.getElem?_toList, e0]
    rfl
  exact ⟨hw 0 (by decide) 0 (by decide), hw 0 (by decide) 1 (by decide), hw 1 (by decide) 0 (by decide), hw 1 (by decide) 1 (by decide), hw 2 (by decide) 0 (by decide), hw 2 (by decide) 1 (by decide), hw 3 (by decide) 0 (by decide), hw 3 (by decide) 1 (by decide), hw 4 (by decide) 0 (by decide), hw 4 (by decide) 1 (by decide), hw 5 (by decide) 0 (by decide), hw 5 (by decide) 1 (by decide), hw 6 (by decide) 0 (by decide), hw 6 (by decide) 1 (by decide), hw 7 (by decide) 0 (by decide), hw 7 (by decide) 1 (by decide)⟩
theorem mem_all {H : Type} {P : Program} {e : TypeId} : ∀ {l : List (DataW H)} {d : DataW H} {m : Nat}, d ∈ l → m ∈ d.weights P e → m ∈ DataW.weightsAll P e l
  | [], _, _, h, _ => by cases h
  | x :: l, d, m, h, hm => by
    rw [DataW.weightsAll]
    rcases List.mem_cons.1 h with rfl | h
    · exact List.mem_append_left _ hm
    · exact List.mem_append_right _ (mem_all h hm)
theorem c9o : Tryz.prog.cellsOf 9 = 1 := by kernel_rfl
theorem c6o : Tryz.prog.cellsOf 2 = 1 := by kernel_rfl
theorem cBo : Tryz.prog.cellsOf 4 = 1 := by kernel_rfl
theorem cLo : Tryz.prog.cellsOf 39 = 1 := by kernel_rfl
theorem cZo : Tryz.prog.cellsOf 40 = 1 := by kernel_rfl
theorem cTo : Tryz.prog.cellsOf 62 = 6 := by kernel_rfl
theorem cNo : Tryz.prog.cellsOf 42 = 11 := by kernel_rfl
theorem bTo : Tryz.prog.bytesOf 62 = 64 := by kernel_rfl
theorem bIo : Tryz.prog.bytesOf 3 = 8 := by kernel_rfl
theorem len6 {α : Type} {l : List α} (h : l.length = 6) : ∃ a b c d e f, l = [a, b, c, d, e, f] := by
  match l, h with
  | [a, b, c, d, e, f], _ => exact ⟨a, b, c, d, e, f, rfl⟩
theorem len11 {α : Type} {l : List α} (h : l.length = 11) : ∃ a b c d e f g i j k m, l = [a, b, c, d, e, f, g, i, j, k, m] := by
  match l, h with
  | [a, b, c, d, e, f, g, i, j, k, m], _ => exact ⟨a, b, c, d, e, f, g, i, j, k, m, rfl⟩
theorem addr_at {w : World} {a : Addr} {v : Value} (h : w.cell? a = some v) : ∃ b o, a = ⟨b, o, none⟩ ∧ b < w.heap.size := by
  have hs := World.cell?_spot h
  have hb := World.block_lt_of_cell? _ _ h
  obtain ⟨b, o, s⟩ := a
  simp only at hs hb
  subst hs
  exact ⟨b, o, rfl, hb⟩
theorem add_none (b o k : Nat) : (⟨b, o, none⟩ : Addr).add k = ⟨b, o + k, none⟩ := by
  unfold Addr.add
  split <;> simp_all
section
variable {H : Type} {enc : TypeId × Value → H} {w : World}
theorem str_at {n : Nat} {v : Value} {y : DataW H × List MemPlace} (h : DataW.trod enc Tryz.prog w 0 (fun _ => true) true n 9 [v] = some y) : ∃ s : ByteArray, v = .string s ∧ y.1 = .lit (.string s.data.toList) := by
  obtain ⟨s, hs, rfl, _⟩ := DataW.trod_string Tryz.underlying9 h
  exact ⟨s, by simpa using hs, rfl⟩
theorem size_at {s : ByteArray} {y : DataW H} (hy : y = .lit (.string s.data.toList)) (hz : ∀ m ∈ y.weights Tryz.prog 9, m ≤ reachBytes) : s.size ≤ 140737488351232 := by
  subst hy
  have := hz s.data.toList.length (by simp [DataW.weights])
  rw [By.len_size] at this
  exact this
theorem int_at {n : Nat} {v : Value} {y : DataW H × List MemPlace} (h : DataW.trod enc Tryz.prog w 0 (fun _ => true) true n 3 [v] = some y) : ∃ x : Int, v = .int .i64 x := by
  obtain ⟨x, hx, _⟩ := DataW.trod_int Tryz.underlying3 h
  exact ⟨x, by simpa using hx⟩
theorem int64_at {n : Nat} {v : Value} {y : DataW H × List MemPlace} (h : DataW.trod enc Tryz.prog w 0 (fun _ => true) true n 2 [v] = some y) : ∃ x : Int, v = .int .i64 x := by
  obtain ⟨x, hx, _⟩ := DataW.trod_int Tryz.underlying2 h
  exact ⟨x, by simpa using hx⟩
theorem bool_at {n : Nat} {v : Value} {y : DataW H × List MemPlace} (h : DataW.trod enc Tryz.prog w 0 (fun _ => true) true n 4 [v] = some y) : ∃ x : Bool, v = .bool x := by
  obtain ⟨x, hx, _⟩ := DataW.trod_bool Tryz.underlying4 h
  exact ⟨x, by simpa using hx⟩
/-- An item that came in. -/
theorem open_it {n : Nat} {cs : List Value} {y : DataW H × List MemPlace} (h : DataW.trod enc Tryz.prog w 0 (fun _ => true) true n 62 cs = some y) : ∃ t : It, cs = t.cells ∧ ((∀ m ∈ y.1.weights Tryz.prog 62, m ≤ reachBytes) → t.n.size ≤ 140737488351232 ∧ t.a.size ≤ 140737488351232) := by
  obtain ⟨xs, k, hk, rfl, hcl, hxl, hf⟩ := DataW.trod_struct Tryz.underlying62 h
  rw [cTo] at hcl
  obtain ⟨v0, v1, v2, v3, v4, v5, rfl⟩ := len6 hcl
  obtain ⟨y0, y1, y2, y3, y4, y5, rfl⟩ := len6 hxl
  have f0 : DataW.trod enc Tryz.prog w 0 (fun _ => true) true k 9 (List.take (Tryz.prog.cellsOf 9) [v0, v1, v2, v3, v4, v5]) = some y0 := hf 0 _ rfl
  rw [c9o] at f0
  have f0 : DataW.trod enc Tryz.prog w 0 (fun _ => true) true k 9 [v0] = some y0 := f0
  have f1 : DataW.trod enc Tryz.prog w 0 (fun _ => true) true k 3 (List.take (Tryz.prog.cellsOf 3) [v1, v2, v3, v4, v5]) = some y1 := hf 1 _ rfl
  rw [cIo] at f1
  have f1 : DataW.trod enc Tryz.prog w 0 (fun _ => true) true k 3 [v1] = some y1 := f1
  have f2 : DataW.trod enc Tryz.prog w 0 (fun _ => true) true k 3 (List.take (Tryz.prog.cellsOf 3) [v2, v3, v4, v5]) = some y2 := hf 2 _ rfl
  rw [cIo] at f2
  have f2 : DataW.trod enc Tryz.prog w 0 (fun _ => true) true k 3 [v2] = some y2 := f2
  have f3 : DataW.trod enc Tryz.prog w 0 (fun _ => true) true k 3 (List.take (Tryz.prog.cellsOf 3) [v3, v4, v5]) = some y3 := hf 3 _ rfl
  rw [cIo] at f3
  have f3 : DataW.trod enc Tryz.prog w 0 (fun _ => true) true k 3 [v3] = some y3 := f3
  have f4 : DataW.trod enc Tryz.prog w 0 (fun _ => true) true k 9 (List.take (Tryz.prog.cellsOf 9) [v4, v5]) = some y4 := hf 4 _ rfl
  rw [c9o] at f4
  have f4 : DataW.trod enc Tryz.prog w 0 (fun _ => true) true k 9 [v4] = some y4 := f4
  have f5 : DataW.trod enc Tryz.prog w 0 (fun _ => true) true k 4 (List.take (Tryz.prog.cellsOf 4) [v5]) = some y5 := hf 5 _ rfl
  rw [cBo] at f5
  have f5 : DataW.trod enc Tryz.prog w 0 (fun _ => true) true k 4 [v5] = some y5 := f5
  obtain ⟨s0, rfl, e0⟩ := str_at f0
  obtain ⟨x1, rfl⟩ := int_at f1
  obtain ⟨x2, rfl⟩ := int_at f2
  obtain ⟨x3, rfl⟩ := int_at f3
  obtain ⟨s4, rfl, e4⟩ := str_at f4
  obtain ⟨x5, rfl⟩ := bool_at f5
  refine ⟨⟨s0, x1, x2, x3, s4, x5⟩, rfl, fun hz => ?_⟩
  simp only [DataW.weights, Tryz.underlying62, DataW.weightsEach, List.map_cons, List.map_nil, List.append_nil, List.mem_append] at hz
  exact ⟨size_at e0 fun m hm => hz m (.inl hm), size_at e4 fun m hm => hz m (.inr (.inr (.inr (.inr (.inl hm)))))⟩
theorem open_items {n : Nat} {v : Value} {y : DataW H × List MemPlace} (h : DataW.trod enc Tryz.prog w 0 (fun _ => true) true n 39 [v] = some y) (hz : ∀ m ∈ y.1.weights Tryz.prog 39, m ≤ reachBytes) :
    ∃ (aL : Option Addr) (l : List It) (cL : Nat), v = .slice aL l.length cL ∧ l.length ≤ 140737488351232 ∧ ItS w aL l ∧ ∀ t ∈ l, t.n.size ≤ 140737488351232 ∧ t.a.size ≤ 140737488351232 := by
  rcases Go.Deep.open_slice Tryz.underlying39 h with ⟨hcs, rfl⟩ | ⟨a, len, cap, m, k, D, Pl, hcs, _, hl, hm, hmm, rfl, hi⟩
  · obtain rfl : v = .slice none 0 0 := by simpa using hcs
    exact ⟨none, [], 0, rfl, Nat.zero_le _, fun i h => (by cases h), fun a h => (by cases h)⟩
  · obtain rfl : v = .slice (some a) len cap := by simpa using hcs
    have hmm2 : m = cap := by simpa using hmm
    subst hmm2
    clear hmm hcs
    have hel : ∀ i, ∃ p : It, i < len → (((∀ m' ∈ (D i).weights Tryz.prog 62, m' ≤ reachBytes) → p.n.size ≤ 140737488351232 ∧ p.a.size ≤ 140737488351232) ∧ ∀ j, j < 6 → w.cell? ((a.add (i * 6)).add j) = p.cells[j]?) := by
      intro i
      by_cases hil : i < len
      · obtain ⟨cs', hc, ht⟩ := hi i (by omega)
        rw [cTo] at hc
        obtain ⟨_, hlen, hcell⟩ := World.cells?_some hc
        obtain ⟨e, he, hr⟩ := open_it ht
        refine ⟨e, fun _ => ⟨hr, fun j hj => ?_⟩⟩
        have := hcell j hj
        rw [this, he]
      · exact ⟨⟨⟨#[]⟩, 0, 0, 0, ⟨#[]⟩, false⟩, fun h => absurd h hil⟩
    obtain ⟨p, hp⟩ := Classical.skolem.1 hel
    have hzw : ∀ m', m' ∈ DataW.weights Tryz.prog 39 (DataW.slice ((List.range len).map D) ((List.range (m - len)).map fun j => D (len + j))) → m' ≤ reachBytes := hz
    simp only [DataW.weights, Tryz.underlying39, bTo] at hzw
    have hlz := hzw _ List.mem_cons_self
    simp only [List.length_map, List.length_range] at hlz
    unfold reachBytes at hlz
    have hel2 : ∀ i, i < len → ∀ m', m' ∈ (D i).weights Tryz.prog 62 → m' ≤ reachBytes := fun i hil m' hm' =>
      hzw m' (List.mem_cons_of_mem _ (List.mem_append_left _ (mem_all (List.mem_map.2 ⟨i, by simpa using hil, rfl⟩) hm')))
    refine ⟨some a, (List.range len).map p, m, by simp, by simp; omega, ?_, ?_⟩
    · intro i hi2
      have hil : i < len := by simpa using hi2
      have hc := (hp i hil).2
      have ha : ∃ b o, a = ⟨b, o, none⟩ ∧ b < w.heap.size := by
        have h0 := (hp 0 (by omega)).2 0 (by decide)
        rw [Nat.zero_mul] at h0
        exact addr_at (v := .string (p 0).n) (by simpa [Addr.add, It.cells] using h0)
      obtain ⟨b, o, rfl, hb⟩ := ha
      refine ⟨b, o, rfl, ?_⟩
      have e : ((List.range len).map p)[i]'hi2 = p i := by simp
      rw [e]
      have hc2 : ∀ j, j < 6 → w.cell? ⟨b, o + i * 6 + j, none⟩ = (p i).cells[j]? := fun j hj => by
        have := hc j hj
        rw [add_none, add_none] at this
        exact this
      exact ⟨hc2 0 (by decide), hc2 1 (by decide), hc2 2 (by decide), hc2 3 (by decide), hc2 4 (by decide), hc2 5 (by decide)⟩
    · intro q hq
      obtain ⟨i, hir, rfl⟩ := List.mem_map.1 hq
      have hil : i < len := by simpa using hir
      exact (hp i hil).1 (hel2 i hil)
theorem open_codes {n : Nat} {v : Value} {y : DataW H × List MemPlace} (h : DataW.trod enc Tryz.prog w 0 (fun _ => true) true n 40 [v] = some y) (hz : ∀ m ∈ y.1.weights Tryz.prog 40, m ≤ reachBytes) :
    ∃ (aL : Option Addr) (l : List Int) (cL : Nat), v = .slice aL l.length cL ∧ l.length ≤ 140737488351232 ∧ CdS w aL l := by
  rcases Go.Deep.open_slice Tryz.underlying40 h with ⟨hcs, rfl⟩ | ⟨a, len, cap, m, k, D, Pl, hcs, _, hl, hm, hmm, rfl, hi⟩
  · obtain rfl : v = .slice none 0 0 := by simpa using hcs
    exact ⟨none, [], 0, rfl, Nat.zero_le _, fun i h => (by cases h)⟩
  · obtain rfl : v = .slice (some a) len cap := by simpa using hcs
    have hmm2 : m = cap := by simpa using hmm
    subst hmm2
    clear hmm hcs
    have hel : ∀ i, ∃ p : Int, i < len → w.cell? ((a.add (i * 1)).add 0) = some (.int .i64 p) := by
      intro i
      by_cases hil : i < len
      · obtain ⟨cs', hc, ht⟩ := hi i (by omega)
        rw [cIo] at hc
        obtain ⟨_, hlen, hcell⟩ := World.cells?_some hc
        obtain ⟨v0, rfl⟩ : ∃ v0, cs' = [v0] := List.length_eq_one_iff.1 hlen
        obtain ⟨s, rfl⟩ := int_at ht
        refine ⟨s, fun _ => ?_⟩
        have := hcell 0 (by decide)
        rw [this]
        rfl
      · exact ⟨0, fun h => absurd h hil⟩
    obtain ⟨p, hp⟩ := Classical.skolem.1 hel
    have hzw : ∀ m', m' ∈ DataW.weights Tryz.prog 40 (DataW.slice ((List.range len).map D) ((List.range (m - len)).map fun j => D (len + j))) → m' ≤ reachBytes := hz
    simp only [DataW.weights, Tryz.underlying40, bIo] at hzw
    have hlz := hzw _ List.mem_cons_self
    simp only [List.length_map, List.length_range] at hlz
    unfold reachBytes at hlz
    refine ⟨some a, (List.range len).map p, m, by simp, by simp; omega, ?_⟩
    intro i hi2
    have hil : i < len := by simpa using hi2
    have hc := hp i hil
    obtain ⟨b, o, rfl, hb⟩ : ∃ b o, a = ⟨b, o, none⟩ ∧ b < w.heap.size := by
      have h0 := hp 0 (by omega)
      rw [Nat.zero_mul] at h0
      exact addr_at (v := .int .i64 (p 0)) (by simpa [Addr.add] using h0)
    refine ⟨b, o, rfl, ?_⟩
    have e : ((List.range len).map p)[i]'hi2 = p i := by simp
    rw [e]
    rw [add_none, add_none, Nat.mul_one] at hc
    exact hc
/-- A note that came in. -/
theorem open_nt {n : Nat} {cs : List Value} {y : DataW H × List MemPlace} (h : DataW.trod enc Tryz.prog w 0 (fun _ => true) true n 42 cs = some y) (hz : ∀ m ∈ y.1.weights Tryz.prog 42, m ≤ reachBytes) : ∃ (t : Nt) (ai az : Option Addr) (ci cz : Nat), cs = [.int .i64 t.k, .string t.n, .string t.x, .string t.d, .int .i64 t.c, .int .i64 t.s, .int .i64 t.e, .int .i64 t.t, .bool t.o, .slice ai t.l.length ci, .slice az t.z.length cz] ∧ NtR w ai az t := by
  obtain ⟨xs, k, hk, rfl, hcl, hxl, hf⟩ := DataW.trod_struct Tryz.underlying42 h
  rw [cNo] at hcl
  obtain ⟨v0, v1, v2, v3, v4, v5, v6, v7, v8, v9, v10, rfl⟩ := len11 hcl
  obtain ⟨y0, y1, y2, y3, y4, y5, y6, y7, y8, y9, y10, rfl⟩ := len11 hxl
  have f0 : DataW.trod enc Tryz.prog w 0 (fun _ => true) true k 3 (List.take (Tryz.prog.cellsOf 3) [v0, v1, v2, v3, v4, v5, v6, v7, v8, v9, v10]) = some y0 := hf 0 _ rfl
  rw [cIo] at f0
  have f0 : DataW.trod enc Tryz.prog w 0 (fun _ => true) true k 3 [v0] = some y0 := f0
  have f1 : DataW.trod enc Tryz.prog w 0 (fun _ => true) true k 9 (List.take (Tryz.prog.cellsOf 9) [v1, v2, v3, v4, v5, v6, v7, v8, v9, v10]) = some y1 := hf 1 _ rfl
  rw [c9o] at f1
  have f1 : DataW.trod enc Tryz.prog w 0 (fun _ => true) true k 9 [v1] = some y1 := f1
  have f2 : DataW.trod enc Tryz.prog w 0 (fun _ => true) true k 9 (List.take (Tryz.prog.cellsOf 9) [v2, v3, v4, v5, v6, v7, v8, v9, v10]) = some y2 := hf 2 _ rfl
  rw [c9o] at f2
  have f2 : DataW.trod enc Tryz.prog w 0 (fun _ => true) true k 9 [v2] = some y2 := f2
  have f3 : DataW.trod enc Tryz.prog w 0 (fun _ => true) true k 9 (List.take (Tryz.prog.cellsOf 9) [v3, v4, v5, v6, v7, v8, v9, v10]) = some y3 := hf 3 _ rfl
  rw [c9o] at f3
  have f3 : DataW.trod enc Tryz.prog w 0 (fun _ => true) true k 9 [v3] = some y3 := f3
  have f4 : DataW.trod enc Tryz.prog w 0 (fun _ => true) true k 3 (List.take (Tryz.prog.cellsOf 3) [v4, v5, v6, v7, v8, v9, v10]) = some y4 := hf 4 _ rfl
  rw [cIo] at f4
  have f4 : DataW.trod enc Tryz.prog w 0 (fun _ => true) true k 3 [v4] = some y4 := f4
  have f5 : DataW.trod enc Tryz.prog w 0 (fun _ => true) true k 3 (List.take (Tryz.prog.cellsOf 3) [v5, v6, v7, v8, v9, v10]) = some y5 := hf 5 _ rfl
  rw [cIo] at f5
  have f5 : DataW.trod enc Tryz.prog w 0 (fun _ => true) true k 3 [v5] = some y5 := f5
  have f6 : DataW.trod enc Tryz.prog w 0 (fun _ => true) true k 2 (List.take (Tryz.prog.cellsOf 2) [v6, v7, v8, v9, v10]) = some y6 := hf 6 _ rfl
  rw [c6o] at f6
  have f6 : DataW.trod enc Tryz.prog w 0 (fun _ => true) true k 2 [v6] = some y6 := f6
  have f7 : DataW.trod enc Tryz.prog w 0 (fun _ => true) true k 2 (List.take (Tryz.prog.cellsOf 2) [v7, v8, v9, v10]) = some y7 := hf 7 _ rfl
  rw [c6o] at f7
  have f7 : DataW.trod enc Tryz.prog w 0 (fun _ => true) true k 2 [v7] = some y7 := f7
  have f8 : DataW.trod enc Tryz.prog w 0 (fun _ => true) true k 4 (List.take (Tryz.prog.cellsOf 4) [v8, v9, v10]) = some y8 := hf 8 _ rfl
  rw [cBo] at f8
  have f8 : DataW.trod enc Tryz.prog w 0 (fun _ => true) true k 4 [v8] = some y8 := f8
  have f9 : DataW.trod enc Tryz.prog w 0 (fun _ => true) true k 39 (List.take (Tryz.prog.cellsOf 39) [v9, v10]) = some y9 := hf 9 _ rfl
  rw [cLo] at f9
  have f9 : DataW.trod enc Tryz.prog w 0 (fun _ => true) true k 39 [v9] = some y9 := f9
  have f10 : DataW.trod enc Tryz.prog w 0 (fun _ => true) true k 40 (List.take (Tryz.prog.cellsOf 40) [v10]) = some y10 := hf 10 _ rfl
  rw [cZo] at f10
  have f10 : DataW.trod enc Tryz.prog w 0 (fun _ => true) true k 40 [v10] = some y10 := f10
  obtain ⟨x0, rfl⟩ := int_at f0
  obtain ⟨s1, rfl, e1⟩ := str_at f1
  obtain ⟨s2, rfl, e2⟩ := str_at f2
  obtain ⟨s3, rfl, e3⟩ := str_at f3
  obtain ⟨x4, rfl⟩ := int_at f4
  obtain ⟨x5, rfl⟩ := int_at f5
  obtain ⟨x6, rfl⟩ := int64_at f6
  obtain ⟨x7, rfl⟩ := int64_at f7
  obtain ⟨x8, rfl⟩ := bool_at f8
  simp only [DataW.weights, Tryz.underlying42, DataW.weightsEach, List.map_cons, List.map_nil, List.append_nil, List.mem_append] at hz
  obtain ⟨ai, l, ci, rfl, hin, hI, hiz⟩ := open_items f9 fun m hm => hz m (.inr (.inr (.inr (.inr (.inr (.inr (.inr (.inr (.inr (.inl hm))))))))))
  obtain ⟨az, z, cz, rfl, hzn, hZ⟩ := open_codes f10 fun m hm => hz m (.inr (.inr (.inr (.inr (.inr (.inr (.inr (.inr (.inr (.inr hm))))))))))
  exact ⟨⟨x0, s1, s2, s3, x4, x5, x6, x7, x8, l, z⟩, ai, az, ci, cz, rfl, ⟨size_at e1 fun m hm => hz m (.inr (.inl hm)), size_at e2 fun m hm => hz m (.inr (.inr (.inl hm))), size_at e3 fun m hm => hz m (.inr (.inr (.inr (.inl hm)))), hI, hZ, hin, hiz, hzn⟩⟩
theorem len5 {α : Type} {l : List α} (h : l.length = 5) : ∃ a b c d e, l = [a, b, c, d, e] := by
  match l, h with
  | [a, b, c, d, e], _ => exact ⟨a, b, c, d, e, rfl⟩
theorem cBg : Tryz.prog.cellsOf 23 = 5 := by kernel_rfl
/-- A Begin that came in. -/
theorem open_bg {n : Nat} {cs : List Value} {y : DataW H × List MemPlace} (h : DataW.trod enc Tryz.prog w 0 (fun _ => true) true n 23 cs = some y) (hz : ∀ m ∈ y.1.weights Tryz.prog 23, m ≤ reachBytes) : ∃ (a b : ByteArray) (s t c : Int), cs = [.string a, .string b, .int .i64 s, .int .i64 t, .int .i64 c] ∧ a.size ≤ 140737488351232 ∧ b.size ≤ 140737488351232 := by
  obtain ⟨xs, k, hk, rfl, hcl, hxl, hf⟩ := DataW.trod_struct Tryz.underlying23 h
  rw [cBg] at hcl
  obtain ⟨v0, v1, v2, v3, v4, rfl⟩ := len5 hcl
  obtain ⟨y0, y1, y2, y3, y4, rfl⟩ := len5 hxl
  have f0 : DataW.trod enc Tryz.prog w 0 (fun _ => true) true k 9 (List.take (Tryz.prog.cellsOf 9) [v0, v1, v2, v3, v4]) = some y0 := hf 0 _ rfl
  rw [c9o] at f0
  have f0 : DataW.trod enc Tryz.prog w 0 (fun _ => true) true k 9 [v0] = some y0 := f0
  have f1 : DataW.trod enc Tryz.prog w 0 (fun _ => true) true k 9 (List.take (Tryz.prog.cellsOf 9) [v1, v2, v3, v4]) = some y1 := hf 1 _ rfl
  rw [c9o] at f1
  have f1 : DataW.trod enc Tryz.prog w 0 (fun _ => true) true k 9 [v1] = some y1 := f1
  have f2 : DataW.trod enc Tryz.prog w 0 (fun _ => true) true k 3 (List.take (Tryz.prog.cellsOf 3) [v2, v3, v4]) = some y2 := hf 2 _ rfl
  rw [cIo] at f2
  have f2 : DataW.trod enc Tryz.prog w 0 (fun _ => true) true k 3 [v2] = some y2 := f2
  have f3 : DataW.trod enc Tryz.prog w 0 (fun _ => true) true k 2 (List.take (Tryz.prog.cellsOf 2) [v3, v4]) = some y3 := hf 3 _ rfl
  rw [c6o] at f3
  have f3 : DataW.trod enc Tryz.prog w 0 (fun _ => true) true k 2 [v3] = some y3 := f3
  have f4 : DataW.trod enc Tryz.prog w 0 (fun _ => true) true k 3 (List.take (Tryz.prog.cellsOf 3) [v4]) = some y4 := hf 4 _ rfl
  rw [cIo] at f4
  have f4 : DataW.trod enc Tryz.prog w 0 (fun _ => true) true k 3 [v4] = some y4 := f4
  obtain ⟨s0, rfl, e0⟩ := str_at f0
  obtain ⟨s1, rfl, e1⟩ := str_at f1
  obtain ⟨x2, rfl⟩ := int_at f2
  obtain ⟨x3, rfl⟩ := int64_at f3
  obtain ⟨x4, rfl⟩ := int_at f4
  simp only [DataW.weights, Tryz.underlying23, DataW.weightsEach, List.map_cons, List.map_nil, List.append_nil, List.mem_append] at hz
  exact ⟨s0, s1, x2, x3, x4, rfl, size_at e0 fun m hm => hz m (.inl hm), size_at e1 fun m hm => hz m (.inr (.inl hm))⟩
end
/-- A world for the witness: the settled one, the listed variables holding what their text lays. -/
noncomputable def laidWorld (os : Os) : World := World.laidAll Tryz.prog os tabs
theorem laid_met (os : Os) (args : Array Value) : laidMetH Tryz.prog tabs ((laidWorld os).forCall (fun _ _ => 0) ⟨#[], args, []⟩).memory := by
  rw [MakeChecks.laidMetH_plain _ _ _ (by kernel_rfl)]
  exact laidMet_laidAll _ (by kernel_rfl) (by kernel_rfl)
theorem witness_zip {H : Type} {enc : TypeId × Value → H} {C : Checked} {os : Os} {f : FuncId} {fn : Func} {s : OpenSpec} {conds : List PathCond} {apart : Bool} {laid : List (String × DataW Unit)} (w0 : World) (args : Array Value) (hos : w0.os = os)
    (hv : (w0.forCall (fun _ _ => 0) ⟨#[], args, []⟩).Shaped C.prog)
    (hok : Input.okWideB C.prog (w0.forCall (fun _ _ => 0) ⟨#[], args, []⟩) f ⟨#[], args, []⟩ = true)
    (hrow : s.preRow enc C.prog fn conds apart laid (w0.forCall (fun _ _ => 0) ⟨#[], args, []⟩).memory args) :
    ∃ (w : World) (tape : Tape) (i : Input), w.os = os ∧ (w.forCall tape i).Shaped C.prog ∧ i.vars = [] ∧ Input.okWide C.prog (w.forCall tape i) .any w.heap.size f i ∧
      s.preRow enc C.prog fn conds apart laid (w.forCall tape i).memory i.args ∧ ({ modest := false } : Assume).holds C.prog (lone (Frame.enter C.prog f i.args .normal) [] (w.forCall tape i)) :=
  ⟨w0, fun _ _ => 0, ⟨#[], args, []⟩, hos, hv, (Input.okWide_of_okWideB (base := 0) hok).1, (Input.okWide_of_okWideB hok).2, hrow, by
    simp only [Assume.holds]
    exact ⟨by simp, fun h => (by cases h), by simp, by simp, by simp⟩⟩
end Go.Proofs.YthbeempmdpfnmaaGreatDoor.T
