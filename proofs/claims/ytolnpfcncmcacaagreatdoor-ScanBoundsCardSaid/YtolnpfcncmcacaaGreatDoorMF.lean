/- Layer 6 in one text: read; how a scanner turns; characters, fail. Conditions: those of each theorem's head. -/
import Derived.Test.YtolnpfcncmcacaaGreatDoorME
import Derived.Test.YtolnpfcncmcacaaGreatDoorMC
import Derived.Laws.OwnMore
import Derived.StillTail
import Derived.Deep.RegionHeld3
import Derived.Deep.AppendLies

/- The contract of (*Scanner).read: the element that begins so. Condition: strconv.ErrSyntax holds an error; texts have at most 1048576 bytes. -/
namespace Go.Proofs.YtolnpfcncmcacaaGreatDoor
open Go.RowKit Go.Lib Go.Shelf Tg Sn

/-! ### Plain facts -/
theorem rd_twins {os : List Sn.Op} {b : Bg} (h : twins b.attrs = true) : Sn.read os b = (60, Op0) := by unfold Sn.read; rw [if_pos h]
theorem rd_many {os : List Sn.Op} {b : Bg} (h : twins b.attrs = false) (h2 : 16 < others b.attrs) : Sn.read os b = (62, Op0) := by unfold Sn.read; rw [if_neg (by rw [h]; exact Bool.false_ne_true), if_pos h2]
theorem rd_vals {os : List Sn.Op} {b : Bg} (h : twins b.attrs = false) (h2 : ¬ 16 < others b.attrs) (h3 : (vals b.attrs).1 ≠ 0) : Sn.read os b = ((vals b.attrs).1, Op0) := by
  unfold Sn.read
  rw [if_neg (by rw [h]; exact Bool.false_ne_true), if_neg h2]
  generalize vals b.attrs = x at h3
  obtain ⟨e, l⟩ := x
  cases e with
  | zero => exact absurd rfl h3
  | succ e => rfl
theorem rd_go {os : List Sn.Op} {b : Bg} (h : twins b.attrs = false) (h2 : ¬ 16 < others b.attrs) (h3 : (vals b.attrs).1 = 0) : Sn.read os b = match decls (vals b.attrs).2 with
      | none => (60, Op0)
      | some own => match spaceOf own os (pre b.name.data.toList) with
        | none => (60, Op0)
        | some sp => match Sn.choose own os (vals b.attrs).2 with
          | none => (60, Op0)
          | some kept => (0, ⟨own, b.name, .mk sp (mk (loc b.name.data.toList)) kept ⟨#[]⟩ []⟩) := by
  unfold Sn.read
  rw [if_neg (by rw [h]; exact Bool.false_ne_true), if_neg h2]
  generalize vals b.attrs = x at h3
  obtain ⟨e, l⟩ := x
  simp only at h3
  subst h3
  rfl
theorem find_mem {d : List At} {p : B8} {x : ByteArray} (h : find d p = some x) : ∃ a ∈ d, a.2 = x := by
  unfold find at h
  cases hf : d.find? (fun b => b.1.data.toList == p) with
  | none => rw [hf] at h; cases h
  | some b =>
    rw [hf] at h
    simp only [Option.map_some, Option.some.injEq] at h
    exact ⟨b, List.mem_of_find?_eq_some hf, h⟩
theorem space_size {n : Nat} {own : List At} {os : List Sn.Op} {p : B8} {x : ByteArray} (h1 : Fit n own) (h2 : ∀ o ∈ os, Fit n o.decl) (h : spaceOf own os p = some x) : x.size ≤ n := by
  unfold spaceOf at h
  split at h
  · rename_i s hs
    cases h
    obtain ⟨a, ha, rfl⟩ := find_mem hs
    exact (h1 a ha).2
  · rw [List.findSome?_eq_some_iff] at h
    obtain ⟨l1, o, l2, he, hf, _⟩ := h
    obtain ⟨a, ha, rfl⟩ := find_mem hf
    have ho : o ∈ os := by
      have : o ∈ os.reverse := by rw [he]; simp
      simpa using this
    exact (h2 o ho a ha).2
theorem loc_len (l : B8) : (loc l).length ≤ l.length := by
  unfold loc
  split
  · simp
  · rename_i p r hc
    have := cut1_len hc
    omega
/-- What was read may lie in memory. -/
theorem read_fit {os : List Sn.Op} {b : Bg} {o : Sn.Op} (h : Sn.read os b = (0, o)) (hf : Fit 1048576 b.attrs) (hl : b.attrs.length ≤ 1048576) (hn : b.name.size ≤ 1048576) (ho : ∀ o ∈ os, Fit 1048576 o.decl) :
    Szd o.elem.sp o.elem.nm o.elem.tx o.elem.atr ∧ Fit 1048576 o.decl ∧ o.decl.length ≤ 1048576 ∧ o.name.size ≤ 1048576 ∧ o.elem.ks = [] ∧ o.elem.tx = ⟨#[]⟩ := by
  cases h1 : twins b.attrs with
  | true => rw [rd_twins h1] at h; cases h
  | false =>
    by_cases h2 : 16 < others b.attrs
    · rw [rd_many h1 h2] at h; cases h
    · by_cases h3 : (vals b.attrs).1 = 0
      · rw [rd_go h1 h2 h3] at h
        have vf := vals_fit hf
        have vl := vals_len b.attrs
        cases hd : decls (vals b.attrs).2 with
        | none => rw [hd] at h; cases h
        | some own =>
          rw [hd] at h
          simp only at h
          have df := decls_fit vf hd
          have dl := decls_len hd
          cases hs : spaceOf own os (pre b.name.data.toList) with
          | none => rw [hs] at h; cases h
          | some sp =>
            rw [hs] at h
            simp only at h
            have ss := space_size df ho hs
            cases hc : Sn.choose own os (vals b.attrs).2 with
            | none => rw [hc] at h; cases h
            | some kept =>
              rw [hc] at h
              simp only [Prod.mk.injEq, true_and] at h
              subst h
              obtain ⟨cl, cm⟩ := choose_len hc
              have ll := loc_len b.name.data.toList
              rw [By.len_size] at ll
              refine ⟨⟨⟨?_, ?_, ?_, ?_⟩, fun a ha => ?_⟩, df, by show own.length ≤ _; omega, hn, rfl, rfl⟩
              · show sp.size ≤ _; omega
              · show (Sn.mk (loc b.name.data.toList)).size ≤ _; rw [Sn.mk_size]; omega
              · show (⟨#[]⟩ : ByteArray).size ≤ _; decide
              · show kept.length ≤ _; omega
              · have := vf a (cm a ha); omega
      · rw [rd_vals h1 h2 h3] at h
        simp only [Prod.mk.injEq] at h
        exact absurd h.1 h3
/-- What read answers. -/
def RdP (r : Nat × Sn.Op) (w : World) (e : Ending) (w' : World) : Prop :=
  ((r.1 ≠ 0 ∧ e = .returned (.tuple #[.agg #[.slice none 0 0, .string ⟨#[]⟩, .string ⟨#[]⟩, .string ⟨#[]⟩, .slice none 0 0, .string ⟨#[]⟩, .slice none 0 0], .int .i64 r.1])) ∨ (r.1 = 0 ∧ ∃ bv av, e = .returned (.tuple #[.agg #[bv, .string r.2.name, .string r.2.elem.sp, .string r.2.elem.nm, av, .string ⟨#[]⟩, .slice none 0 0], .int .i64 0]) ∧ SlA (fun b => w.heap.size ≤ b) w' bv r.2.decl ∧ SlA (fun b => w.heap.size ≤ b) w' av r.2.elem.atr)) ∧ Below w.heap.size w w'
theorem RdP.bad {r : Nat × Sn.Op} {w w' : World} {e : Ending} {n : Nat} (hr : r = (n, Op0)) (hn : n ≠ 0) (he : e = .returned (.tuple #[.agg #[.slice none 0 0, .string ⟨#[]⟩, .string ⟨#[]⟩, .string ⟨#[]⟩, .slice none 0 0, .string ⟨#[]⟩, .slice none 0 0], .int .i64 n])) (hb : Below w.heap.size w w') : RdP r w e w' := by
  subst hr
  exact ⟨.inl ⟨hn, he⟩, hb⟩
theorem RdP.good {r : Nat × Sn.Op} {w w' : World} {e : Ending} {d kept : List At} {nm sp lc : ByteArray} (bv av : Value) (hr : r = (0, ⟨d, nm, .mk sp lc kept ⟨#[]⟩ []⟩)) (he : e = .returned (.tuple #[.agg #[bv, .string nm, .string sp, .string lc, av, .string ⟨#[]⟩, .slice none 0 0], .int .i64 0])) (h1 : SlA (fun b => w.heap.size ≤ b) w' bv d) (h2 : SlA (fun b => w.heap.size ≤ b) w' av kept) (hb : Below w.heap.size w w') : RdP r w e w' := by
  subst hr
  exact ⟨.inr ⟨rfl, bv, av, he, h1, h2⟩, hb⟩
theorem sla_form {S : Nat → Prop} {w : World} {v : Value} {l : List At} (h : SlA S w v l) : ∃ a c, v = .slice a l.length c ∧ AtS S w a l := by
  obtain ⟨a, c, h1, _, _, h4⟩ := h
  exact ⟨a, c, h1, h4⟩
theorem far7 {w : World} {v : Value} {l : List At} {E B : Nat} (h : SlA (fun k => E + 1 ≤ k) w v l) (hB : B ≤ E + 1) (v0 v1 v2 v3 v4 v5 v6 : Value) :
    SlA (fun k => B ≤ k) (((((((w.setCell ⟨E, 0, none⟩ v0).setCell ⟨E, 1, none⟩ v1).setCell ⟨E, 2, none⟩ v2).setCell ⟨E, 3, none⟩ v3).setCell ⟨E, 4, none⟩ v4).setCell ⟨E, 5, none⟩ v5).setCell ⟨E, 6, none⟩ v6) v l := by
  refine (h.keep fun b hb _ => ?_).weak fun b _ hb => Nat.le_trans hB hb
  have hne : ∀ (W : World) (i : Nat) (u : Value), (W.setCell ⟨E, i, none⟩ u).heap[b]? = W.heap[b]? := fun W i u => Below.heap_setCell _ _ _ _ (by show b ≠ E; omega)
  rw [hne, hne, hne, hne, hne, hne, hne]
theorem set7 {B E : Nat} {a w : World} (h : Below B a w) (hE : B ≤ E) (v0 v1 v2 v3 v4 v5 v6 : Value) :
    Below B a (((((((w.setCell ⟨E, 0, none⟩ v0).setCell ⟨E, 1, none⟩ v1).setCell ⟨E, 2, none⟩ v2).setCell ⟨E, 3, none⟩ v3).setCell ⟨E, 4, none⟩ v4).setCell ⟨E, 5, none⟩ v5).setCell ⟨E, 6, none⟩ v6) :=
  ((((((h.setCell hE _).setCell hE _).setCell hE _).setCell hE _).setCell hE _).setCell hE _).setCell hE _
set_option maxRecDepth 100000 in
set_option maxHeartbeats 16000000 in
theorem read_any (N P : Nat) (v : Vw) (s : St) (b : Bg) (a : Option Addr) (c : Nat) (w : World) (h : Sc N P v w s) (hsl : s.os.length ≤ 1048576) (hl : b.attrs.length ≤ 1048576) (hf : Fit 1048576 b.attrs) (hn : b.name.size ≤ 1048576) (hA : AtS Any8 w a b.attrs) :
    Calls Tryz.prog 108 #[.pointer (some ⟨P, 0, none⟩), .agg #[.string b.name, .slice a b.attrs.length c, .bool b.empty]] w (RdP (Sn.read s.os b) w) := by
  have hos : ∀ o ∈ s.os, Fit 1048576 o.decl := fun o ho => by
    obtain ⟨i, hi, rfl⟩ := List.getElem_of_mem ho
    exact (h.part i hi (by rw [h.len]; exact hi)).f.1
  have HT := Lib.hid (fun W (hb : Below w.heap.size w W) => hasTwins_any b.attrs a c W hl hf (hA.below hb))
  have HC := Lib.hid (fun W (hb : Below w.heap.size w W) => countOthers_any b.attrs a c W hl hf (hA.below hb))
  have HV := Lib.hid (fun W (hb : Below w.heap.size w W) => readValues_any b.attrs a c W hl hf (hA.below hb) (h.gd.below hb))
  have vf := vals_fit hf
  have vl := vals_len b.attrs
  have HD := Lib.hid (fun (va : Option Addr) (vc : Nat) W (hA : AtS Any8 W va (vals b.attrs).2) => declare_any (vals b.attrs).2 va vc W (by omega) vf hA)
  have HP := Lib.hid (fun W => parts_any b.name W hn)
  have HS := Lib.hid (fun (own : List At) (p : ByteArray) (oa : Option Addr) (oc : Nat) W (hb : Below w.heap.size w W) (ho : own.length ≤ 1048576) hO => spaceOf_any N P v s own p oa oc W (h.below hb) hsl ho hO)
  have HK := Lib.hid (fun (own : List At) (oa : Option Addr) (oc : Nat) (va : Option Addr) (vc : Nat) W (hb : Below w.heap.size w W) (ho : own.length ≤ 1048576) hO hA => choose_any N P v s own (vals b.attrs).2 oa oc va vc W (h.below hb) hsl ho hO (by omega) vf hA)
  have HDL := Lib.hid (fun own hd => (decls_len (l := (vals b.attrs).2) (d := own) hd))
  have HDF := Lib.hid (fun own hd => (decls_fit (l := (vals b.attrs).2) (d := own) vf hd))
  have HSS := Lib.hid (fun own sp hd (hs : spaceOf own s.os (pre b.name.data.toList) = some sp) => space_size (decls_fit (l := (vals b.attrs).2) (d := own) vf hd) hos hs)
  have HLL : Hid ((Sn.mk (loc b.name.data.toList)).size ≤ 1048576) := by show _ ≤ _; rw [Sn.mk_size]; have := loc_len b.name.data.toList; rw [By.len_size] at this; omega
  have HVL : Hid ((vals b.attrs).2.length ≤ 1048576) := by show _ ≤ _; omega
  have R1 := Lib.hid (fun h1 => rd_twins (os := s.os) (b := b) h1)
  have R2 := Lib.hid (fun h1 h2 => rd_many (os := s.os) (b := b) h1 h2)
  have R3 := Lib.hid (fun h1 h2 h3 => rd_vals (os := s.os) (b := b) h1 h2 h3)
  have R4 := Lib.hid (fun h1 h2 h3 => rd_go (os := s.os) (b := b) h1 h2 h3)
  have CL := Lib.hid (fun (x : ByteArray) (hx : x.size ≤ 1048576) W => clone_any x W (by omega))
  unfold optB at HS
  obtain ⟨nm, l, em⟩ := b
  simp only at HT HC HV HD HP HK HDL HDF HSS HLL HVL R1 R2 R3 R4 hn
  have HNM := Lib.hid hn
  generalize Sn.read s.os ⟨nm, l, em⟩ = RES at R1 R2 R3 R4 ⊢
  clear hos vf vl h hf hA hn
  have HB0 : Hid (Below w.heap.size w ((w.alloc (.cells #[.string nm, .slice a l.length c, .bool em] 159)).alloc (.cells #[.slice none 0 0, .string ⟨#[]⟩, .string ⟨#[]⟩, .string ⟨#[]⟩, .slice none 0 0, .string ⟨#[]⟩, .slice none 0 0] 155))) := ((Below.refl _ _).alloc (Nat.le_refl _) _).alloc (by simp) _
  have HX0 : Hid (((w.alloc (.cells #[.string nm, .slice a l.length c, .bool em] 159)).alloc (.cells #[.slice none 0 0, .string ⟨#[]⟩, .string ⟨#[]⟩, .string ⟨#[]⟩, .slice none 0 0, .string ⟨#[]⟩, .slice none 0 0] 155)).heap[w.heap.size]? = some (.cells #[.string nm, .slice a l.length c, .bool em] 159 (0, 0))) := (Below.heap_alloc _ _ _ (by simp)).trans (box_new w _ _)
  have HR0 : Hid (((w.alloc (.cells #[.string nm, .slice a l.length c, .bool em] 159)).alloc (.cells #[.slice none 0 0, .string ⟨#[]⟩, .string ⟨#[]⟩, .string ⟨#[]⟩, .slice none 0 0, .string ⟨#[]⟩, .slice none 0 0] 155)).heap[w.heap.size + 1]? = some (.cells #[.slice none 0 0, .string ⟨#[]⟩, .string ⟨#[]⟩, .string ⟨#[]⟩, .slice none 0 0, .string ⟨#[]⟩, .slice none 0 0] 155 (0, 0))) := by show _ = _; simpa using box_new (w.alloc (.cells #[.string nm, .slice a l.length c, .bool em] 159)) #[.slice none 0 0, .string ⟨#[]⟩, .string ⟨#[]⟩, .string ⟨#[]⟩, .slice none 0 0, .string ⟨#[]⟩, .slice none 0 0] 155
  go_enter Tryz.func108, Tryz.ntmps108
  go_wp2_with fail
  generalize ((w.alloc (.cells #[.string nm, .slice a l.length c, .bool em] 159)).alloc (.cells #[.slice none 0 0, .string ⟨#[]⟩, .string ⟨#[]⟩, .string ⟨#[]⟩, .slice none 0 0, .string ⟨#[]⟩, .slice none 0 0] 155)) = W0 at HB0 HX0 HR0 ⊢
  obtain ⟨x0, x1, x2⟩ := bx3 HX0.out
  cases h1 : twins l with
  | true =>
    have E := Lib.hid (R1.out h1)
    have C := Lib.hid (HT.out _ HB0.out)
    rw [h1] at C
    clear h1
    go_wp2_with fail
    refine C.out.mono ?_
    rintro r w1 ⟨rfl, hb⟩
    have HB1 := Lib.hid (HB0.out.trans (hb.mono HB0.out.size))
    have HX1 := Lib.hid ((hb.block _ (heap_lt HX0.out)).trans HX0.out)
    have HR1 := Lib.hid ((hb.block _ (heap_lt HR0.out)).trans HR0.out)
    clear hb C x0 x1 x2
    obtain ⟨z0, z1, z2, z3, z4, z5, z6⟩ := bx7 HR1.out
    have fz := fun i => Lib.frozen_of_heap HR1.out i
    have fz0 := fz 0
    have fz1 := fz 1
    have fz2 := fz 2
    have fz3 := fz 3
    have fz4 := fz 4
    have fz5 := fz 5
    have fz6 := fz 6
    clear fz
    go_wp2_with fail
    exact bodyPost_ret (v := .tuple #[.agg #[.slice none 0 0, .string ⟨#[]⟩, .string ⟨#[]⟩, .string ⟨#[]⟩, .slice none 0 0, .string ⟨#[]⟩, .slice none 0 0], .int .i64 60]) (by simp [results, Tryz.results108, go_sem, z0, z1, z2, z3, z4, z5, z6]) rfl (RdP.bad E.out (by decide) rfl (set7 HB1.out (Nat.le_succ _) _ _ _ _ _ _ _))
  | false =>
    have H1 := Lib.hid h1
    have C := Lib.hid (HT.out _ HB0.out)
    rw [h1] at C
    clear h1
    go_wp2_with fail
    refine C.out.mono ?_
    rintro r w1 ⟨rfl, hb⟩
    have HB1 := Lib.hid (HB0.out.trans (hb.mono HB0.out.size))
    have HX1 := Lib.hid ((hb.block _ (heap_lt HX0.out)).trans HX0.out)
    have HR1 := Lib.hid ((hb.block _ (heap_lt HR0.out)).trans HR0.out)
    clear hb C x0 x1 x2
    obtain ⟨x0, x1, x2⟩ := bx3 HX1.out
    have C := Lib.hid (HC.out _ HB1.out)
    by_cases h2 : 16 < others l
    · have d16 : decide ((16 : Int) < (others l : Int)) = true := by rw [decide_eq_true_iff]; omega
      have E := Lib.hid (R2.out H1.out h2)
      clear h2
      go_wp2_with fail
      refine C.out.mono ?_
      rintro r w2 ⟨rfl, hb⟩
      have HB2 := Lib.hid (HB1.out.trans (hb.mono HB1.out.size))
      have HX2 := Lib.hid ((hb.block _ (heap_lt HX1.out)).trans HX1.out)
      have HR2 := Lib.hid ((hb.block _ (heap_lt HR1.out)).trans HR1.out)
      clear hb C x0 x1 x2
      obtain ⟨z0, z1, z2, z3, z4, z5, z6⟩ := bx7 HR2.out
      have fz := fun i => Lib.frozen_of_heap HR2.out i
      have fz0 := fz 0
      have fz1 := fz 1
      have fz2 := fz 2
      have fz3 := fz 3
      have fz4 := fz 4
      have fz5 := fz 5
      have fz6 := fz 6
      clear fz
      go_wp2_with fail
      exact bodyPost_ret (v := .tuple #[.agg #[.slice none 0 0, .string ⟨#[]⟩, .string ⟨#[]⟩, .string ⟨#[]⟩, .slice none 0 0, .string ⟨#[]⟩, .slice none 0 0], .int .i64 62]) (by simp [results, Tryz.results108, go_sem, z0, z1, z2, z3, z4, z5, z6]) rfl (RdP.bad E.out (by decide) rfl (set7 HB2.out (Nat.le_succ _) _ _ _ _ _ _ _))
    have d16 : decide ((16 : Int) < (others l : Int)) = false := by rw [decide_eq_false_iff_not]; omega
    have d17 : ¬ ((16 : Int) < (others l : Int)) := by omega
    have H2 := Lib.hid h2
    go_wp2_with fail
    refine C.out.mono ?_
    rintro r w2 ⟨rfl, hb⟩
    have HB2 := Lib.hid (HB1.out.trans (hb.mono HB1.out.size))
    have HX2 := Lib.hid ((hb.block _ (heap_lt HX1.out)).trans HX1.out)
    have HR2 := Lib.hid ((hb.block _ (heap_lt HR1.out)).trans HR1.out)
    clear hb C x0 x1 x2
    obtain ⟨x0, x1, x2⟩ := bx3 HX2.out
    have C := Lib.hid (HV.out _ HB2.out)
    go_wp2_with fail
    clear d16 d17 h2
    refine C.out.mono ?_
    rintro r w3 ⟨vv, rfl, hsv, hb⟩
    have HB3 := Lib.hid (HB2.out.trans (hb.mono HB2.out.size))
    have HX3 := Lib.hid ((hb.block _ (heap_lt HX2.out)).trans HX2.out)
    have HR3 := Lib.hid ((hb.block _ (heap_lt HR2.out)).trans HR2.out)
    clear hb C x0 x1 x2
    obtain ⟨va, vc, rfl, hva⟩ := sla_form hsv
    have HVA := Lib.hid (hva.weak (S' := Any8) (fun _ _ _ => trivial))
    clear hsv hva
    by_cases h3 : (vals l).1 = 0
    case neg =>
      have ne : (((vals l).1 : Int) != 0) = true := by rw [bne_iff_ne]; omega
      have E := Lib.hid (R3.out H1.out H2.out h3)
      have HNZ := Lib.hid h3
      clear h3
      generalize (vals l).1 = en at ne E HNZ
      obtain ⟨z0, z1, z2, z3, z4, z5, z6⟩ := bx7 HR3.out
      have fz := fun i => Lib.frozen_of_heap HR3.out i
      have fz0 := fz 0
      have fz1 := fz 1
      have fz2 := fz 2
      have fz3 := fz 3
      have fz4 := fz 4
      have fz5 := fz 5
      have fz6 := fz 6
      clear fz
      go_wp2_with fail
      exact bodyPost_ret (v := .tuple #[.agg #[.slice none 0 0, .string ⟨#[]⟩, .string ⟨#[]⟩, .string ⟨#[]⟩, .slice none 0 0, .string ⟨#[]⟩, .slice none 0 0], .int .i64 en]) (by simp [results, Tryz.results108, go_sem, z0, z1, z2, z3, z4, z5, z6]) rfl (RdP.bad E.out HNZ.out rfl (set7 HB3.out (Nat.le_succ _) _ _ _ _ _ _ _))
    have ne : (((vals l).1 : Int) != 0) = false := by rw [bne_eq_false_iff_eq]; omega
    have E := Lib.hid (R4.out H1.out H2.out h3)
    clear h3
    generalize (vals l).1 = en at ne ⊢
    have C := Lib.hid (HD.out va vc _ HVA.out)
    go_wp2_with fail
    refine C.out.mono ?_
    rintro r w4 ⟨bv, rfl, hsb, hb⟩
    have HVA4 := Lib.hid (HVA.out.below hb)
    have HB4 := Lib.hid (HB3.out.trans (hb.mono HB3.out.size))
    have HX4 := Lib.hid ((hb.block _ (heap_lt HX3.out)).trans HX3.out)
    have HR4 := Lib.hid ((hb.block _ (heap_lt HR3.out)).trans HR3.out)
    clear hb C HVA ne
    obtain ⟨ba, bc, rfl, hba⟩ := sla_form hsb
    have HSB : Hid (SlA (fun k => w.heap.size + 1 + 1 ≤ k) w4 (.slice ba ((decls (vals l).2).getD []).length bc) ((decls (vals l).2).getD [])) := hsb.weak fun k _ hk => Nat.le_trans (heap_lt HR3.out) hk
    have HBA := Lib.hid (hba.weak (S' := Any8) (fun _ _ _ => trivial))
    clear hsb hba
    rcases hd : decls (vals l).2 with _ | own
    · rw [hd] at E HSB
      simp only [Option.getD_none, Option.isSome_none, List.length_nil] at E HSB ⊢
      clear hd
      obtain ⟨z0, z1, z2, z3, z4, z5, z6⟩ := bx7 HR4.out
      have hlt := heap_lt HR4.out
      have fz := fun i => Lib.frozen_of_heap HR4.out i
      have fz0 := fz 0
      have fz1 := fz 1
      have fz2 := fz 2
      have fz3 := fz 3
      have fz4 := fz 4
      have fz5 := fz 5
      have fz6 := fz 6
      clear fz
      go_wp2_with fail
      exact bodyPost_ret (v := .tuple #[.agg #[.slice none 0 0, .string ⟨#[]⟩, .string ⟨#[]⟩, .string ⟨#[]⟩, .slice none 0 0, .string ⟨#[]⟩, .slice none 0 0], .int .i64 60]) (by simp [results, Tryz.results108, go_sem, z0, z1, z2, z3, z4, z5, z6, hlt]) rfl (RdP.bad E.out (by decide) rfl ((set7 HB4.out (Nat.le_succ _) _ _ _ _ _ _ _).alloc (by have := heap_lt HR4.out; simp [World.setCell]; omega) _))
    simp only [hd, Option.getD_some, Option.isSome_some] at E HSB HBA ⊢
    have HOL := Lib.hid (HDL.out own hd)
    have HOF := Lib.hid (HDF.out own hd)
    have hol : own.length ≤ 1048576 := Nat.le_trans HOL.out HVL.out
    have HSS2 := Lib.hid (fun sp hs => HSS.out own sp hd hs)
    clear hd HSS HDL HDF
    have HB5 := Lib.hid (HB4.out.alloc HB4.out.size (.cells #[.slice ba own.length bc] 153))
    have HX5 := Lib.hid ((Below.heap_alloc w4 (.cells #[.slice ba own.length bc] 153) _ (heap_lt HX4.out)).trans HX4.out)
    have HR5 := Lib.hid ((Below.heap_alloc w4 (.cells #[.slice ba own.length bc] 153) _ (heap_lt HR4.out)).trans HR4.out)
    have HE5 := Lib.hid (box_new w4 #[.slice ba own.length bc] 153)
    have HSB5 := Lib.hid (HSB.out.below ((Below.refl _ w4).alloc (Nat.le_refl _) (.cells #[.slice ba own.length bc] 153)))
    have HBA5 := Lib.hid (HBA.out.below ((Below.refl _ w4).alloc (Nat.le_refl _) (.cells #[.slice ba own.length bc] 153)))
    have HVA5 := Lib.hid (HVA4.out.below ((Below.refl _ w4).alloc (Nat.le_refl _) (.cells #[.slice ba own.length bc] 153)))
    obtain ⟨x0, x1, x2⟩ := bx3 HX4.out
    have hxl := heap_lt HX4.out
    go_wp2_with fail
    have C := Lib.hid (HP.out (w4.alloc (.cells #[.slice ba own.length bc] 153)))
    generalize w4.alloc (.cells #[.slice ba own.length bc] 153) = W5 at HB5 HX5 HR5 HE5 HSB5 HBA5 HVA5 C ⊢
    generalize w4.heap.size = D at HE5 ⊢
    clear HB4 HX4 HR4 HSB HBA HVA4 x0 x1 x2 hxl
    generalize hpp : Sn.mk (pre nm.data.toList) = PP at C
    generalize Sn.mk (loc nm.data.toList) = LL at C E HLL
    refine C.out.mono ?_
    rintro r w6 ⟨rfl, hb⟩
    have HB6 := Lib.hid (HB5.out.trans (hb.mono HB5.out.size))
    have HX6 := Lib.hid ((hb.block _ (heap_lt HX5.out)).trans HX5.out)
    have HR6 := Lib.hid ((hb.block _ (heap_lt HR5.out)).trans HR5.out)
    have HE6 := Lib.hid ((hb.block _ (heap_lt HE5.out)).trans HE5.out)
    have HSB6 := Lib.hid (HSB5.out.below hb)
    have HBA6 := Lib.hid (HBA5.out.below hb)
    have HVA6 := Lib.hid (HVA5.out.below hb)
    clear hb C HB5 HX5 HR5 HE5 HSB5 HBA5 HVA5
    have e0 : w6.cell? ⟨D, 0, none⟩ = some (.slice ba own.length bc) := by rw [Lib.cell_of_heap HE6.out]; rfl
    have C := Lib.hid (HS.out own PP ba bc w6 HB6.out hol HBA6.out)
    rw [← hpp, Sn.mk_list, hpp] at C
    clear hpp
    rcases hsp : spaceOf own s.os (pre nm.data.toList) with _ | sp
    · simp only [hsp, Option.getD_none, Option.isSome_none] at E C
      clear hsp HSS2
      go_wp2_with fail
      refine C.out.mono ?_
      rintro r w7 ⟨rfl, hb⟩
      have HB7 := Lib.hid (HB6.out.trans (hb.mono HB6.out.size))
      have HX7 := Lib.hid ((hb.block _ (heap_lt HX6.out)).trans HX6.out)
      have HR7 := Lib.hid ((hb.block _ (heap_lt HR6.out)).trans HR6.out)
      clear hb C e0
      obtain ⟨z0, z1, z2, z3, z4, z5, z6⟩ := bx7 HR7.out
      have fz := fun i => Lib.frozen_of_heap HR7.out i
      have fz0 := fz 0
      have fz1 := fz 1
      have fz2 := fz 2
      have fz3 := fz 3
      have fz4 := fz 4
      have fz5 := fz 5
      have fz6 := fz 6
      clear fz
      go_wp2_with fail
      exact bodyPost_ret (v := .tuple #[.agg #[.slice none 0 0, .string ⟨#[]⟩, .string ⟨#[]⟩, .string ⟨#[]⟩, .slice none 0 0, .string ⟨#[]⟩, .slice none 0 0], .int .i64 60]) (by simp [results, Tryz.results108, go_sem, z0, z1, z2, z3, z4, z5, z6]) rfl (RdP.bad E.out (by decide) rfl (set7 HB7.out (Nat.le_succ _) _ _ _ _ _ _ _))
    simp only [hsp, Option.getD_some, Option.isSome_some] at E C
    have HSZ := Lib.hid (HSS2.out sp hsp)
    clear hsp HSS2
    go_wp2_with fail
    refine C.out.mono ?_
    rintro r w7 ⟨rfl, hb⟩
    have HB7 := Lib.hid (HB6.out.trans (hb.mono HB6.out.size))
    have HX7 := Lib.hid ((hb.block _ (heap_lt HX6.out)).trans HX6.out)
    have HR7 := Lib.hid ((hb.block _ (heap_lt HR6.out)).trans HR6.out)
    have HE7 := Lib.hid ((hb.block _ (heap_lt HE6.out)).trans HE6.out)
    have HSB7 := Lib.hid (HSB6.out.below hb)
    have HBA7 := Lib.hid (HBA6.out.below hb)
    have HVA7 := Lib.hid (HVA6.out.below hb)
    clear hb C e0 HB6 HX6 HR6 HE6 HSB6 HBA6 HVA6
    have e0 : w7.cell? ⟨D, 0, none⟩ = some (.slice ba own.length bc) := by rw [Lib.cell_of_heap HE7.out]; rfl
    have C := Lib.hid (HK.out own ba bc va vc w7 HB7.out hol HBA7.out HVA7.out)
    rcases hch : Sn.choose own s.os (vals l).2 with _ | kept
    · simp only [hch] at E C
      clear hch
      go_wp2_with fail
      refine C.out.mono ?_
      rintro r w8 ⟨kv, rfl, hsk, hb⟩
      simp only [Option.getD_none, Option.isSome_none] at hsk ⊢
      have HB8 := Lib.hid (HB7.out.trans (hb.mono HB7.out.size))
      have HX8 := Lib.hid ((hb.block _ (heap_lt HX7.out)).trans HX7.out)
      have HR8 := Lib.hid ((hb.block _ (heap_lt HR7.out)).trans HR7.out)
      clear hb C e0 hsk
      obtain ⟨z0, z1, z2, z3, z4, z5, z6⟩ := bx7 HR8.out
      have fz := fun i => Lib.frozen_of_heap HR8.out i
      have fz0 := fz 0
      have fz1 := fz 1
      have fz2 := fz 2
      have fz3 := fz 3
      have fz4 := fz 4
      have fz5 := fz 5
      have fz6 := fz 6
      clear fz
      go_wp2_with fail
      exact bodyPost_ret (v := .tuple #[.agg #[.slice none 0 0, .string ⟨#[]⟩, .string ⟨#[]⟩, .string ⟨#[]⟩, .slice none 0 0, .string ⟨#[]⟩, .slice none 0 0], .int .i64 60]) (by simp [results, Tryz.results108, go_sem, z0, z1, z2, z3, z4, z5, z6]) rfl (RdP.bad E.out (by decide) rfl (set7 HB8.out (Nat.le_succ _) _ _ _ _ _ _ _))
    simp only [hch] at E C
    clear hch
    go_wp2_with fail
    refine C.out.mono ?_
    rintro r w8 ⟨kv, rfl, hsk, hb⟩
    simp only [Option.getD_some, Option.isSome_some] at hsk ⊢
    have HB8 := Lib.hid (HB7.out.trans (hb.mono HB7.out.size))
    have HX8 := Lib.hid ((hb.block _ (heap_lt HX7.out)).trans HX7.out)
    have HR8 := Lib.hid ((hb.block _ (heap_lt HR7.out)).trans HR7.out)
    have HE8 := Lib.hid ((hb.block _ (heap_lt HE7.out)).trans HE7.out)
    have HSB8 := Lib.hid (HSB7.out.below hb)
    have HSK8 : Hid (SlA (fun k => w.heap.size + 1 + 1 ≤ k) w8 kv kept) := hsk.weak fun k _ hk => Nat.le_trans (heap_lt HR7.out) hk
    obtain ⟨ka, kc, rfl, _⟩ := sla_form hsk
    clear hb C e0 HB7 HX7 HR7 HE7 HSB7 HBA7 HVA7 hsk
    have C1 := Lib.hid (CL.out sp HSZ.out)
    have C2 := Lib.hid (CL.out LL HLL.out)
    have C3 := Lib.hid (CL.out nm HNM.out)
    go_wp2_with fail
    refine (C1.out _).mono ?_
    rintro r w9 ⟨rfl, hb⟩
    have HB9 := Lib.hid (HB8.out.trans (hb.mono HB8.out.size))
    have HX9 := Lib.hid ((hb.block _ (heap_lt HX8.out)).trans HX8.out)
    have HR9 := Lib.hid ((hb.block _ (heap_lt HR8.out)).trans HR8.out)
    have HE9 := Lib.hid ((hb.block _ (heap_lt HE8.out)).trans HE8.out)
    have HSB9 := Lib.hid (HSB8.out.below hb)
    have HSK9 := Lib.hid (HSK8.out.below hb)
    clear hb C1 HB8 HX8 HR8 HE8 HSB8 HSK8
    go_wp2_with fail
    refine (C2.out _).mono ?_
    rintro r w10 ⟨rfl, hb⟩
    have HB10 := Lib.hid (HB9.out.trans (hb.mono HB9.out.size))
    have HX10 := Lib.hid ((hb.block _ (heap_lt HX9.out)).trans HX9.out)
    have HR10 := Lib.hid ((hb.block _ (heap_lt HR9.out)).trans HR9.out)
    have HE10 := Lib.hid ((hb.block _ (heap_lt HE9.out)).trans HE9.out)
    have HSBa := Lib.hid (HSB9.out.below hb)
    have HSKa := Lib.hid (HSK9.out.below hb)
    clear hb C2 HB9 HX9 HR9 HE9 HSB9 HSK9
    go_wp2_with fail
    have HBb := Lib.hid (HB10.out.alloc HB10.out.size (.cells #[.string sp, .string LL, .slice ka kept.length kc, .string ⟨#[]⟩, .slice none 0 0] 48))
    have HXb := Lib.hid ((Below.heap_alloc w10 (.cells #[.string sp, .string LL, .slice ka kept.length kc, .string ⟨#[]⟩, .slice none 0 0] 48) _ (heap_lt HX10.out)).trans HX10.out)
    have HRb := Lib.hid ((Below.heap_alloc w10 (.cells #[.string sp, .string LL, .slice ka kept.length kc, .string ⟨#[]⟩, .slice none 0 0] 48) _ (heap_lt HR10.out)).trans HR10.out)
    have HEb := Lib.hid ((Below.heap_alloc w10 (.cells #[.string sp, .string LL, .slice ka kept.length kc, .string ⟨#[]⟩, .slice none 0 0] 48) _ (heap_lt HE10.out)).trans HE10.out)
    have HFb := Lib.hid (box_new w10 #[.string sp, .string LL, .slice ka kept.length kc, .string ⟨#[]⟩, .slice none 0 0] 48)
    have HSBb := Lib.hid (HSBa.out.below ((Below.refl _ w10).alloc (Nat.le_refl _) (.cells #[.string sp, .string LL, .slice ka kept.length kc, .string ⟨#[]⟩, .slice none 0 0] 48)))
    have HSKb := Lib.hid (HSKa.out.below ((Below.refl _ w10).alloc (Nat.le_refl _) (.cells #[.string sp, .string LL, .slice ka kept.length kc, .string ⟨#[]⟩, .slice none 0 0] 48)))
    generalize w10.alloc (.cells #[.string sp, .string LL, .slice ka kept.length kc, .string ⟨#[]⟩, .slice none 0 0] 48) = W11 at HBb HXb HRb HEb HFb HSBb HSKb ⊢
    generalize w10.heap.size = F at HFb ⊢
    clear HB10 HX10 HR10 HE10 HSBa HSKa
    have q0 : ∀ x : Ext W11, x.to.cell? ⟨D, 0, none⟩ = some (.slice ba own.length bc) := fun x => ext_cell x (by rw [Lib.cell_of_heap HEb.out]; rfl)
    have q1 : ∀ x : Ext W11, x.to.cell? ⟨w.heap.size, 0, none⟩ = some (.string nm) := fun x => ext_cell x (bx3 HXb.out).1
    obtain ⟨p0, p1, p2, p3, p4⟩ := bx5 HFb.out
    have q2 : ∀ x : Ext W11, x.to.cell? ⟨F, 0, none⟩ = some (.string sp) := fun x => ext_cell x p0
    have q3 : ∀ x : Ext W11, x.to.cell? ⟨F, 1, none⟩ = some (.string LL) := fun x => ext_cell x p1
    have q4 : ∀ x : Ext W11, x.to.cell? ⟨F, 2, none⟩ = some (.slice ka kept.length kc) := fun x => ext_cell x p2
    have q5 : ∀ x : Ext W11, x.to.cell? ⟨F, 3, none⟩ = some (.string ⟨#[]⟩) := fun x => ext_cell x p3
    have q6 : ∀ x : Ext W11, x.to.cell? ⟨F, 4, none⟩ = some (.slice none 0 0) := fun x => ext_cell x p4
    have hxs := extSome W11
    clear p0 p1 p2 p3 p4
    refine ext_tail 6 (by kernel_rfl) (by kernel_rfl) ?_
    simp only [List.take_succ_cons, List.take_zero, List.drop_succ_cons, List.drop_zero]
    repeat (go_big_quiet_step ((go_at_call 33; with_reducible exact ext_call _ (C3.out _))))
    refine wpQuiet_nil ?_
    rintro _ ⟨x, hxx⟩
    subst hxx
    have HBx := Lib.hid (HBb.out.trans (x.below.mono HBb.out.size))
    have HRx := Lib.hid ((x.below.block _ (heap_lt HRb.out)).trans HRb.out)
    have HSBx := Lib.hid (HSBb.out.below x.below)
    have HSKx := Lib.hid (HSKb.out.below x.below)
    obtain ⟨z0, z1, z2, z3, z4, z5, z6⟩ := bx7 HRx.out
    have fz := fun i => Lib.frozen_of_heap HRx.out i
    have fz0 := fz 0
    have fz1 := fz 1
    have fz2 := fz 2
    have fz3 := fz 3
    have fz4 := fz 4
    have fz5 := fz 5
    have fz6 := fz 6
    clear fz q0 q1 q2 q3 q4 q5 q6
    have HFIN : Hid (∀ v0 v1 v2 v3 v4 v5 v6, SlA (fun k => w.heap.size ≤ k) (((((((x.to.setCell ⟨w.heap.size + 1, 0, none⟩ v0).setCell ⟨w.heap.size + 1, 1, none⟩ v1).setCell ⟨w.heap.size + 1, 2, none⟩ v2).setCell ⟨w.heap.size + 1, 3, none⟩ v3).setCell ⟨w.heap.size + 1, 4, none⟩ v4).setCell ⟨w.heap.size + 1, 5, none⟩ v5).setCell ⟨w.heap.size + 1, 6, none⟩ v6) (.slice ba own.length bc) own ∧
        SlA (fun k => w.heap.size ≤ k) (((((((x.to.setCell ⟨w.heap.size + 1, 0, none⟩ v0).setCell ⟨w.heap.size + 1, 1, none⟩ v1).setCell ⟨w.heap.size + 1, 2, none⟩ v2).setCell ⟨w.heap.size + 1, 3, none⟩ v3).setCell ⟨w.heap.size + 1, 4, none⟩ v4).setCell ⟨w.heap.size + 1, 5, none⟩ v5).setCell ⟨w.heap.size + 1, 6, none⟩ v6) (.slice ka kept.length kc) kept) := fun v0 v1 v2 v3 v4 v5 v6 => ⟨far7 HSBx.out (by omega) _ _ _ _ _ _ _, far7 HSKx.out (by omega) _ _ _ _ _ _ _⟩
    go_wp2_with fail
    exact bodyPost_ret (v := .tuple #[.agg #[.slice ba own.length bc, .string nm, .string sp, .string LL, .slice ka kept.length kc, .string ⟨#[]⟩, .slice none 0 0], .int .i64 0]) (by simp [results, Tryz.results108, go_sem, z0, z1, z2, z3, z4, z5, z6]) rfl (RdP.good _ _ E.out rfl (HFIN.out _ _ _ _ _ _ _).1 (HFIN.out _ _ _ _ _ _ _).2 (set7 HBx.out (Nat.le_succ _) _ _ _ _ _ _ _))
end Go.Proofs.YtolnpfcncmcacaaGreatDoor

/- How a scanner turns in memory: its box alone; the last of the open elements; one less; one more. No condition. -/
namespace Go.Proofs.YtolnpfcncmcacaaGreatDoor
open Go.RowKit Go.Lib Go.Shelf Tg Sn

/-- What lies in a block that is a row of another type, or the box, stays where only blocks of X turn. -/
theorem Sc.kidsHeap {N P : Nat} {v : Vw} {w : World} {s : St} (h : Sc N P v w s) {x : Ov} (hx : x ∈ v.os) {b : Nat} (hb : x.k.ownBlock = some b) : N ≤ b ∧ ∃ cur, w.heap[b]? = some (.cells cur 48 (0, 0)) := by
  obtain ⟨i, hi, rfl⟩ := List.getElem_of_mem hx
  obtain ⟨xs, k1, _⟩ := (h.part i (by rw [← h.len]; exact hi) hi).k
  exact own_heap k1 hb
theorem Lst.at {N P : Nat} {v : Vw} {w w' : World} {s : St} {ini : List Sn.Op} {o : Sn.Op} {vi : List Ov} {x : Ov} {g cap : Nat} (L : Lst N P v w s ini o vi x g cap) (h : Sc N P v w' s) : Lst N P v w' s ini o vi x g cap := by
  refine ⟨L.os, L.vs, L.len, L.opn, ?_⟩
  have hr := h.opn
  rw [L.opn, L.os, L.vs, cellsO_append L.len, List.length_append, List.length_singleton] at hr
  have e1 : cellsO [o] [x] = cells1 o x := by simp [cellsO]
  rw [e1] at hr
  exact hr
/-- The box alone turns. -/
theorem Sc.boxed {N P : Nat} {v : Vw} {w w' : World} {s s' : St} (h : Sc N P v w s) (ho : Ow (fun b => b = P) w w') (hb : w'.heap[P]? = some (.cells (scells v s') 62 (0, 0))) (ht : s'.token = s.token) (hos : s'.os = s.os) : Sc N P v w' s' ∧ Fr P v w w' v := by
  have hf : Fr P v w w' v := Fr.of (ho.weak fun b e => .inl e) fun b hm => .inl hm
  have keep : ∀ {b : Nat} {T : TypeId} {cur : Array Value}, w.heap[b]? = some (.cells cur T (0, 0)) → T ≠ 62 → w'.heap[b]? = w.heap[b]? := fun hh h1 => ho.block _ (heap_lt hh) (fun e => ne_of_type hh h.box h1 e)
  refine ⟨⟨hb, ?_, ?_, by rw [hos]; exact h.len, fun i h1 h2 => ?_, h.apart, ?_, ⟨h.low.1, h.low.2.1, Nat.le_trans h.low.2.2 ho.size⟩, h.offs hf⟩, hf⟩
  · rw [ht]; exact own_keep h.tok fun b e => (own_heap h.tok e).2.elim fun c hc => keep hc (by decide)
  · rw [hos]; exact own_keep h.opn fun b e => (own_heap h.opn e).2.elim fun c hc => keep hc (by decide)
  · have p := h.part i (by rw [← hos]; exact h1) h2
    simp only [hos]
    obtain ⟨xs, k1, k2⟩ := p.k
    exact p.fr hf fun b e => (own_heap k1 e).2.elim fun c hc => keep hc (by decide)
  · obtain ⟨te, pe, hc⟩ := h.gd
    exact h.gd.keep (ho.block _ (World.block_lt_of_cell? w _ hc) (fun hx => h.glow (.inl hx)))
/-- The last of the open elements turns. -/
theorem Sc.putLast {N P : Nat} {v : Vw} {w w' : World} {s : St} (h : Sc N P v w s) {ini : List Sn.Op} {o o' : Sn.Op} {vi : List Ov} {x x' : Ov} {g cap : Nat} (L : Lst N P v w s ini o vi x g cap)
    (ho : Ow (fun b => b = g ∨ x.k.ownBlock = some b) w w') (hr : w'.ownsRow N 155 7 (.slice (some ⟨g, 0, none⟩) (ini.length + 1) cap) (ini.length + 1) (cellsO ini vi ++ cells1 o' x'))
    (hk : ∀ b, x'.k.ownBlock = some b → x.k.ownBlock = some b ∨ w.heap.size ≤ b) (hp : Fr P v w w' { v with os := vi ++ [x'] } → Part N (Imm N P { v with os := vi ++ [x'] }) w' o' x') :
    Sc N P { v with os := vi ++ [x'] } w' { s with os := ini ++ [o'] } ∧ Fr P v w w' { v with os := vi ++ [x'] } := by
  have hLL := L.len
  have hxm : x ∈ v.os := by rw [L.vs]; simp
  have hgo : v.opn.ownBlock = some g := by rw [L.opn]; rfl
  have hgh : ∃ cur, w.heap[g]? = some (.cells cur 155 (0, 0)) := (own_heap h.opn hgo).2
  have hf : Fr P v w w' { v with os := vi ++ [x'] } := Fr.of (ho.weak fun b e => by
      rcases e with e | e
      · subst e; exact .inr (.inr (.inl hgo))
      · exact .inr (.inr (.inr ⟨x, hxm, e⟩))) fun b hm => by
    rcases hm with e | e | e | ⟨y, hy, e⟩
    · exact .inl (.inl e)
    · exact .inl (.inr (.inl e))
    · exact .inl (.inr (.inr (.inl e)))
    · simp only [List.mem_append, List.mem_singleton] at hy
      rcases hy with hy | rfl
      · exact .inl (.inr (.inr (.inr ⟨y, by rw [L.vs]; simp [hy], e⟩)))
      · rcases hk b e with e2 | e2
        · exact .inl (.inr (.inr (.inr ⟨x, hxm, e2⟩)))
        · exact .inr e2
  have keep : ∀ {b : Nat} {T : TypeId} {cur : Array Value}, w.heap[b]? = some (.cells cur T (0, 0)) → T ≠ 155 → (x.k.ownBlock ≠ some b) → w'.heap[b]? = w.heap[b]? := fun hh h1 h2 => ho.block _ (heap_lt hh) (fun e => by
    rcases e with e | e
    · obtain ⟨c, hc⟩ := hgh
      exact ne_of_type hh hc h1 e
    · exact h2 e)
  have keepT : ∀ {b : Nat} {T : TypeId} {cur : Array Value}, w.heap[b]? = some (.cells cur T (0, 0)) → T ≠ 155 → T ≠ 48 → w'.heap[b]? = w.heap[b]? := fun hh h1 h2 => keep hh h1 (fun e => by
    obtain ⟨_, c, hc⟩ := h.kidsHeap hxm e
    exact ne_of_type hh hc h2 rfl)
  refine ⟨⟨?_, ?_, ?_, ?_, fun i (h1 : i < (ini ++ [o']).length) (h2 : i < (vi ++ [x']).length) => ?_, fun i j hi (hj : j < (vi ++ [x']).length) b hb hb2 => ?_, ?_, ⟨h.low.1, h.low.2.1, Nat.le_trans h.low.2.2 ho.size⟩, h.offs hf⟩, hf⟩
  · exact (keepT h.box (by decide) (by decide)).trans h.box
  · exact own_keep h.tok fun b e => (own_heap h.tok e).2.elim fun c hc => keepT hc (by decide) (by decide)
  · show w'.ownsRow N 155 7 v.opn (ini ++ [o']).length (cellsO (ini ++ [o']) (vi ++ [x']))
    rw [cellsO_append L.len, List.length_append, L.opn]
    have e1 : cellsO [o'] [x'] = cells1 o' x' := by simp [cellsO]
    rw [e1]; exact hr
  · simp [L.len]
  · simp only [List.length_append, List.length_singleton] at h1 h2
    by_cases hl : i < ini.length
    · have hl2 : i < vi.length := by rw [L.len]; exact hl
      have hs1 : i < s.os.length := by rw [L.os]; simp; omega
      have hs2 : i < v.os.length := by rw [L.vs]; simp; omega
      have p := h.part i hs1 hs2
      have eo : s.os[i] = ini[i] := by simp only [L.os]; rw [List.getElem_append_left hl]
      have ev : v.os[i] = vi[i] := by simp only [L.vs]; rw [List.getElem_append_left hl2]
      rw [eo, ev] at p
      simp only [List.getElem_append_left hl, List.getElem_append_left hl2]
      obtain ⟨xs, k1, k2⟩ := p.k
      refine p.fr hf fun b e => (own_heap k1 e).2.elim fun c hc => keep hc (by decide) fun e2 => ?_
      have := h.apart i ini.length hl (by rw [L.vs]; simp; omega) b (by rw [ev]; exact e)
      apply this
      have el : v.os[ini.length]'(by rw [L.vs]; simp; omega) = x := by simp only [L.vs]; rw [List.getElem_append_right (by omega)]; simp [L.len]
      rw [el]; exact e2
    · have hil : i = ini.length := by omega
      subst hil
      have q := hp hf
      simp only [List.getElem_append_right (Nat.le_refl _), List.getElem_append_right (Nat.le_of_eq L.len), Nat.sub_self, L.len, List.getElem_cons_zero]
      exact q
  · simp only [List.length_append, List.length_singleton] at hj
    have hiv : i < vi.length := by omega
    have hs2 : i < v.os.length := by rw [L.vs]; simp; omega
    have ev : v.os[i] = vi[i] := by simp only [L.vs]; rw [List.getElem_append_left hiv]
    simp only [List.getElem_append_left hiv] at hb
    by_cases hjl : j < vi.length
    · simp only [List.getElem_append_left hjl] at hb2
      have ev2 : v.os[j]'(by rw [L.vs]; simp; omega) = vi[j] := by simp only [L.vs]; rw [List.getElem_append_left hjl]
      exact h.apart i j hi (by rw [L.vs]; simp; omega) b (by rw [ev]; exact hb) (by rw [ev2]; exact hb2)
    · have hjl : j = vi.length := by omega
      subst hjl
      simp only [List.getElem_append_right (Nat.le_refl _), Nat.sub_self, List.getElem_cons_zero] at hb2
      rcases hk b hb2 with e2 | e2
      · have el : v.os[vi.length]'(by rw [L.vs]; simp) = x := by simp only [L.vs]; rw [List.getElem_append_right (Nat.le_refl _)]; simp
        exact h.apart i vi.length hi (by rw [L.vs]; simp) b (by rw [ev]; exact hb) (by rw [el]; exact e2)
      · obtain ⟨_, c, hc⟩ := h.kidsHeap (x := vi[i]) (by rw [L.vs]; simp) hb
        have := heap_lt hc; omega
  · obtain ⟨te, pe, hc⟩ := h.gd
    exact h.gd.keep (ho.block _ (World.block_lt_of_cell? w _ hc) (fun hx => h.glow (by
      rcases hx with e | e
      · rw [e]; exact .inr (.inr (.inl hgo))
      · exact .inr (.inr (.inr ⟨x, hxm, e⟩)))))
/-- A value of seven cells, as an element. -/
def elV (o : Sn.Op) (x : Ov) : Value := .agg #[.string o.elem.sp, .string o.elem.nm, x.a, .string o.elem.tx, x.k]
/-- The last of the open elements has ended: what it was is told, and lies in blocks that stay. -/
theorem Sc.drop {N P : Nat} {v : Vw} {w w' : World} {s : St} (h : Sc N P v w s) {ini : List Sn.Op} {o : Sn.Op} {vi : List Ov} {x : Ov} {g cap : Nat} (L : Lst N P v w s ini o vi x g cap)
    (hkl : o.elem.ks.length ≤ maxLen)
    (ho : Ow (fun b => b = P ∨ b = g) w w') (hb : w'.heap[P]? = some (.cells (scells { v with opn := .slice (some ⟨g, 0, none⟩) ini.length cap, os := vi } { s with os := ini }) 62 (0, 0)))
    (hr : w'.ownsRow N 155 7 (.slice (some ⟨g, 0, none⟩) ini.length cap) ini.length (cellsO ini vi)) :
    (Sc N P { v with opn := .slice (some ⟨g, 0, none⟩) ini.length cap, os := vi } w' { s with os := ini } ∧ Fr P v w w' { v with opn := .slice (some ⟨g, 0, none⟩) ini.length cap, os := vi }) ∧
    InS (Imm N P { v with opn := .slice (some ⟨g, 0, none⟩) ini.length cap, os := vi }) w' o.elem (elV o x) := by
  have hLL := L.len
  have hxm : x ∈ v.os := by rw [L.vs]; simp
  have hgo : v.opn.ownBlock = some g := by rw [L.opn]; rfl
  have hgh : ∃ cur, w.heap[g]? = some (.cells cur 155 (0, 0)) := (own_heap h.opn hgo).2
  have hf : Fr P v w w' { v with opn := .slice (some ⟨g, 0, none⟩) ini.length cap, os := vi } := Fr.of (ho.weak fun b e => by
      rcases e with e | e
      · exact .inl e
      · subst e; exact .inr (.inr (.inl hgo))) fun b hm => by
    rcases hm with e | e | e | ⟨y, hy, e⟩
    · exact .inl (.inl e)
    · exact .inl (.inr (.inl e))
    · cases e; exact .inl (.inr (.inr (.inl hgo)))
    · exact .inl (.inr (.inr (.inr ⟨y, by rw [L.vs]; simp [hy], e⟩)))
  have keep : ∀ {b : Nat} {T : TypeId} {cur : Array Value}, w.heap[b]? = some (.cells cur T (0, 0)) → T ≠ 155 → T ≠ 62 → w'.heap[b]? = w.heap[b]? := fun hh h1 h2 => ho.block _ (heap_lt hh) (fun e => by
    rcases e with e | e
    · exact ne_of_type hh h.box h2 e
    · obtain ⟨c, hc⟩ := hgh
      exact ne_of_type hh hc h1 e)
  have hlast : ∃ (h1 : ini.length < s.os.length) (h2 : ini.length < v.os.length), s.os[ini.length] = o ∧ v.os[ini.length] = x := by
    refine ⟨by rw [L.os]; simp, by rw [L.vs]; simp; omega, ?_, ?_⟩
    · simp only [L.os]; rw [List.getElem_append_right (Nat.le_refl _)]; simp
    · simp only [L.vs]; rw [List.getElem_append_right (by omega)]; simp [L.len]
  refine ⟨⟨⟨hb, ?_, hr, L.len, fun i (h1 : i < ini.length) (h2 : i < vi.length) => ?_, fun i j hi (hj : j < vi.length) b hb1 hb2 => ?_, ?_, ⟨h.low.1, h.low.2.1, Nat.le_trans h.low.2.2 ho.size⟩, h.offs hf⟩, hf⟩, ?_⟩
  · exact own_keep h.tok fun b e => (own_heap h.tok e).2.elim fun c hc => keep hc (by decide) (by decide)
  · have hs1 : i < s.os.length := by rw [L.os]; simp; omega
    have hs2 : i < v.os.length := by rw [L.vs]; simp; omega
    have p := h.part i hs1 hs2
    have eo : s.os[i] = ini[i] := by simp only [L.os]; rw [List.getElem_append_left h1]
    have ev : v.os[i] = vi[i] := by simp only [L.vs]; rw [List.getElem_append_left h2]
    rw [eo, ev] at p
    obtain ⟨xs, k1, k2⟩ := p.k
    exact p.fr hf fun b e => (own_heap k1 e).2.elim fun c hc => keep hc (by decide) (by decide)
  · have hiv : i < vi.length := by omega
    have ev : v.os[i]'(by rw [L.vs]; simp; omega) = vi[i] := by simp only [L.vs]; rw [List.getElem_append_left hiv]
    have ev2 : v.os[j]'(by rw [L.vs]; simp; omega) = vi[j] := by simp only [L.vs]; rw [List.getElem_append_left hj]
    exact h.apart i j hi (by rw [L.vs]; simp; omega) b (by rw [ev]; exact hb1) (by rw [ev2]; exact hb2)
  · obtain ⟨te, pe, hc⟩ := h.gd
    exact h.gd.keep (ho.block _ (World.block_lt_of_cell? w _ hc) (fun hx => h.glow (by
      rcases hx with e | e
      · exact .inl e
      · rw [e]; exact .inr (.inr (.inl hgo)))))
  · obtain ⟨h1, h2, eo, ev⟩ := hlast
    have p := h.part ini.length h1 h2
    rw [eo, ev] at p
    obtain ⟨xs, k1, k2⟩ := p.k
    have hka : ∀ b, x.k.ownBlock = some b → N ≤ b ∧ w'.heap[b]? = w.heap[b]? ∧ Imm N P { v with opn := .slice (some ⟨g, 0, none⟩) ini.length cap, os := vi } b := by
      intro b e
      obtain ⟨q1, c, hc⟩ := own_heap k1 e
      refine ⟨q1, keep hc (by decide) (by decide), q1, ?_, fun hfb => (h.off b hfb).2 (.inr (.inr (.inr ⟨x, hxm, e⟩)))⟩
      rintro (e2 | e2 | e2 | ⟨y, hy, e2⟩)
      · exact ne_of_type hc h.box (by decide) e2
      · obtain ⟨_, c2, hc2⟩ := own_heap h.tok e2
        exact ne_of_type hc hc2 (by decide) rfl
      · cases e2
        obtain ⟨c2, hc2⟩ := hgh
        exact ne_of_type hc hc2 (by decide) rfl
      · obtain ⟨i, hi, rfl⟩ := List.getElem_of_mem hy
        have hi : i < vi.length := hi
        have ev3 : v.os[i]'(by rw [L.vs]; simp; omega) = vi[i] := by simp only [L.vs]; rw [List.getElem_append_left hi]
        exact h.apart i ini.length (by rw [← L.len]; exact hi) h2 b (by rw [ev3]; exact e2) (by rw [ev]; exact e)
    have k1' := own_keep (w' := w') k1 (fun b e => (hka b e).2.1)
    have hin : ∀ i (hi : i < o.elem.ks.length), ∃ v0 v1 v2 v3 v4, xs[i * 5]? = some v0 ∧ xs[i * 5 + 1]? = some v1 ∧ xs[i * 5 + 2]? = some v2 ∧ xs[i * 5 + 3]? = some v3 ∧ xs[i * 5 + 4]? = some v4 ∧ InS (Imm N P { v with opn := .slice (some ⟨g, 0, none⟩) ini.length cap, os := vi }) w' o.elem.ks[i] (.agg #[v0, v1, v2, v3, v4]) := fun i hi => by
      obtain ⟨v0, v1, v2, v3, v4, a0, a1, a2, a3, a4, hi⟩ := k2 i hi
      exact ⟨v0, v1, v2, v3, v4, a0, a1, a2, a3, a4, hi.fr hf⟩
    obtain ⟨ka, kc, hkv⟩ := own_form k1
    have := InS.mk (S := Imm N P { v with opn := .slice (some ⟨g, 0, none⟩) ini.length cap, os := vi }) (w := w') o.elem.sp o.elem.nm o.elem.atr o.elem.tx o.elem.ks x.a ka kc (fun i j => (xs[i * 5 + j]?).getD undef) p.z (p.a.fr hf) hkl (fun i hi => ?_) (fun i hi => ?_)
    · unfold elV
      rw [hkv]
      have eta := o.elem.eta
      rw [← eta] at this
      exact this
    · obtain ⟨v0, v1, v2, v3, v4, a0, a1, a2, a3, a4, _⟩ := hin i hi
      obtain ⟨gk, ck, hgk, _, _⟩ := k1'.form (by omega)
      have hrow := k1'
      rw [hgk] at hrow
      rw [hgk] at hkv
      cases hkv
      have hcell : ∀ j, j < 5 → w'.cell? ⟨gk, 0 + i * 5 + j, none⟩ = xs[i * 5 + j]? := fun j hj => by
        rw [Nat.zero_add]
        exact hrow.cellAt _ (by omega)
      refine ⟨gk, 0, rfl, (hka gk (by rw [hgk]; rfl)).2.2, ?_, ?_, ?_, ?_, ?_⟩
      · have := hcell 0 (by decide); simp only [Nat.add_zero] at this ⊢; rw [this, a0]; rfl
      · rw [hcell 1 (by decide), a1]; rfl
      · rw [hcell 2 (by decide), a2]; rfl
      · rw [hcell 3 (by decide), a3]; rfl
      · rw [hcell 4 (by decide), a4]; rfl
    · obtain ⟨v0, v1, v2, v3, v4, a0, a1, a2, a3, a4, hi⟩ := hin i hi
      simp only [Nat.add_zero, a0, a1, a2, a3, a4, Option.getD_some]
      exact hi
/-- One more element is open. -/
theorem Sc.push {N P : Nat} {v : Vw} {w w' : World} {s : St} (h : Sc N P v w s) {o : Sn.Op} {x : Ov} {opn : Value}
    (ho : Ow (fun b => b = P ∨ v.opn.ownBlock = some b) w w') (hb : w'.heap[P]? = some (.cells (scells { v with opn := opn, os := v.os ++ [x] } { s with os := s.os ++ [o] }) 62 (0, 0)))
    (hr : w'.ownsRow N 155 7 opn (s.os.length + 1) (cellsO s.os v.os ++ cells1 o x)) (hn : ∀ b, opn.ownBlock = some b → v.opn.ownBlock = some b ∨ w.heap.size ≤ b)
    (hk : x.k.ownBlock = none) (hp : Fr P v w w' { v with opn := opn, os := v.os ++ [x] } → Part N (Imm N P { v with opn := opn, os := v.os ++ [x] }) w' o x) :
    Sc N P { v with opn := opn, os := v.os ++ [x] } w' { s with os := s.os ++ [o] } ∧ Fr P v w w' { v with opn := opn, os := v.os ++ [x] } := by
  have hlen := h.len
  have hf : Fr P v w w' { v with opn := opn, os := v.os ++ [x] } := Fr.of (ho.weak fun b e => by
      rcases e with e | e
      · exact .inl e
      · exact .inr (.inr (.inl e))) fun b hm => by
    rcases hm with e | e | e | ⟨y, hy, e⟩
    · exact .inl (.inl e)
    · exact .inl (.inr (.inl e))
    · rcases hn b e with e2 | e2
      · exact .inl (.inr (.inr (.inl e2)))
      · exact .inr e2
    · simp only [List.mem_append, List.mem_singleton] at hy
      rcases hy with hy | rfl
      · exact .inl (.inr (.inr (.inr ⟨y, hy, e⟩)))
      · rw [hk] at e; cases e
  have keep : ∀ {b : Nat} {T : TypeId} {cur : Array Value}, w.heap[b]? = some (.cells cur T (0, 0)) → T ≠ 155 → T ≠ 62 → w'.heap[b]? = w.heap[b]? := fun hh h1 h2 => ho.block _ (heap_lt hh) (fun e => by
    rcases e with e | e
    · exact ne_of_type hh h.box h2 e
    · obtain ⟨_, c, hc⟩ := own_heap h.opn e
      exact ne_of_type hh hc h1 rfl)
  refine ⟨⟨hb, ?_, ?_, ?_, fun i (h1 : i < (s.os ++ [o]).length) (h2 : i < (v.os ++ [x]).length) => ?_, fun i j hi (hj : j < (v.os ++ [x]).length) b hb1 hb2 => ?_, ?_, ⟨h.low.1, h.low.2.1, Nat.le_trans h.low.2.2 ho.size⟩, h.offs hf⟩, hf⟩
  · exact own_keep h.tok fun b e => (own_heap h.tok e).2.elim fun c hc => keep hc (by decide) (by decide)
  · show w'.ownsRow N 155 7 opn (s.os ++ [o]).length (cellsO (s.os ++ [o]) (v.os ++ [x]))
    rw [cellsO_append h.len, List.length_append]
    have e1 : cellsO [o] [x] = cells1 o x := by simp [cellsO]
    rw [e1]; exact hr
  · simp [h.len]
  · simp only [List.length_append, List.length_singleton] at h1 h2
    by_cases hl : i < s.os.length
    · have hl2 : i < v.os.length := by omega
      have p := h.part i hl hl2
      simp only [List.getElem_append_left hl, List.getElem_append_left hl2]
      obtain ⟨xs, k1, k2⟩ := p.k
      exact p.fr hf fun b e => (own_heap k1 e).2.elim fun c hc => keep hc (by decide) (by decide)
    · have hil : i = s.os.length := by omega
      subst hil
      have q := hp hf
      simp only [List.getElem_append_right (Nat.le_refl _), List.getElem_append_right (Nat.le_of_eq hlen), Nat.sub_self, hlen, List.getElem_cons_zero]
      exact q
  · simp only [List.length_append, List.length_singleton] at hj
    have hiv : i < v.os.length := by omega
    simp only [List.getElem_append_left hiv] at hb1
    by_cases hjl : j < v.os.length
    · simp only [List.getElem_append_left hjl] at hb2
      exact h.apart i j hi hjl b hb1 hb2
    · have hjl : j = v.os.length := by omega
      subst hjl
      simp only [List.getElem_append_right (Nat.le_refl _), Nat.sub_self, List.getElem_cons_zero] at hb2
      rw [hk] at hb2; cases hb2
  · obtain ⟨te, pe, hc⟩ := h.gd
    exact h.gd.keep (ho.block _ (World.block_lt_of_cell? w _ hc) (fun hx => h.glow (by
      rcases hx with e | e
      · exact .inl e
      · exact .inr (.inr (.inl e)))))
end Go.Proofs.YtolnpfcncmcacaaGreatDoor

/- The contract of glyph.Trim. Condition: the text has at most 1048576 bytes. -/
namespace Go.Proofs.YtolnpfcncmcacaaGreatDoor
open Go.RowKit Go.Lib Sg

theorem trim_any (s : ByteArray) (w : World) (hs : s.size ≤ 1048576) :
    Calls Tryz.prog 101 #[.string s] w fun e w' => e = .returned (.string ⟨(Lib.trimS s.data.toList [32, 9, 10, 13]).toArray⟩) ∧ Below w.heap.size w w' := by
  have hcon := Any.strings_Trim_laid Tryz.lays160 (by kernel_rfl) s ⟨#[32, 9, 10, 13]⟩ w (by omega) (by decide) (ascii_of_all (by decide))
  change Calls Tryz.prog 88 _ _ (fun e w' => e = .returned (.string ⟨(Lib.trimS s.data.toList [32, 9, 10, 13]).toArray⟩) ∧ Below w.heap.size w w') at hcon
  have hle : (⟨(Lib.trimS s.data.toList [32, 9, 10, 13]).toArray⟩ : ByteArray).size ≤ 281474976710656 := by
    have := trimS_len s.data.toList [32, 9, 10, 13]
    have h2 : s.data.toList.length = s.size := by simp
    show (Lib.trimS s.data.toList [32, 9, 10, 13]).toArray.size ≤ _
    rw [List.size_toArray]
    omega
  generalize (⟨(Lib.trimS s.data.toList [32, 9, 10, 13]).toArray⟩ : ByteArray) = r at hcon hle ⊢
  have H := Lib.hid hcon
  have HE := Lib.hid hle
  clear hcon hle
  go_enter Tryz.func101, Tryz.ntmps101
  go_wp2_with fail
  refine H.out.mono ?_
  rintro e w1 ⟨rfl, hb1⟩
  go_wp2_with fail
  refine (clone_any _ _ HE.out).mono ?_
  rintro e w2 ⟨rfl, hb2⟩
  go_wp2
  go_ret
  exact ⟨rfl, hb1.trans (hb2.mono hb1.size)⟩

end Go.Proofs.YtolnpfcncmcacaaGreatDoor

/- Contracts of (*Scanner).characters and fail: characters, behind the text of the innermost element; the end of all. Condition: texts have at most 1048576 bytes. -/
namespace Go.Proofs.YtolnpfcncmcacaaGreatDoor
open Go.RowKit Go.Lib Go.Shelf Tg Sn

theorem mem_tw {p : UInt8 → Bool} {b : UInt8} : ∀ {l : B8}, b ∈ l.takeWhile p → p b = true
  | [], h => by cases h
  | a :: l, h => by
    rw [List.takeWhile_cons] at h
    split at h
    · rename_i e
      rcases List.mem_cons.1 h with rfl | h
      · exact e
      · exact mem_tw h
    · cases h
theorem trim_blank (l : B8) : (trim l = []) ↔ l.all bk = true := by
  have hb : (fun a => bl a) = bk := funext bl_contains
  have hdw : ∀ m : B8, m.dropWhile bl = [] ↔ m.all bk = true := by
    intro m
    induction m with
    | nil => simp
    | cons b m ih =>
      have e : bl b = bk b := bl_contains b
      simp only [List.dropWhile_cons, List.all_cons, Bool.and_eq_true, e]
      cases bk b with
      | true => simp [ih]
      | false => simp
  rw [trim_eq, hdw]
  constructor
  · intro h
    cases ha : l.all bk with
    | true => rfl
    | false =>
      exfalso
      rw [List.all_eq_false] at ha
      obtain ⟨b, hb1, hb2⟩ := ha
      have : b ∈ (l.reverse.dropWhile bl).reverse := by
        rw [List.mem_reverse]
        have hm : b ∈ l.reverse := by simpa using hb1
        rw [← List.takeWhile_append_dropWhile (p := bl) (l := l.reverse)] at hm
        rcases List.mem_append.1 hm with h1 | h1
        · have := mem_tw h1
          rw [show bl b = bk b from bl_contains b] at this
          exact absurd this hb2
        · exact h1
      exact hb2 (List.all_eq_true.1 h b this)
  · intro h
    have : l.reverse.dropWhile bl = [] := by rw [hdw]; simpa using h
    rw [this]; rfl
theorem chars_out {s : St} {t : B8} (h : s.os.length ≤ 1) : chars s t = (s, Ev0, if t.all bk then 0 else 60) := by unfold chars; rw [if_pos h]
theorem chars_in {s : St} {t : B8} (h : ¬ s.os.length ≤ 1) : chars s t = ({ s with os := onLast (El.addTx · (qt t).2) s.os }, Ev0, (qt t).1) := by unfold chars; rw [if_neg h]
theorem onLast_snoc (f : El → El) (ini : List Sn.Op) (o : Sn.Op) : onLast f (ini ++ [o]) = ini ++ [⟨o.decl, o.name, f o.elem⟩] := by
  unfold onLast
  simp
theorem By.cat (t : ByteArray) (l : B8) : t ++ Sn.mk l = Sn.mk (t.data.toList ++ l) := mk_eq (by rw [show (t ++ Sn.mk l).data.toList = t.data.toList ++ (Sn.mk l).data.toList by simp, mk_list])
/-- Text behind the text of the innermost element. -/
theorem Sc.putTx {N P : Nat} {v : Vw} {w : World} {s : St} (h : Sc N P v w s) {ini : List Sn.Op} {o : Sn.Op} {vi : List Ov} {x : Ov} {g cap : Nat} (L : Lst N P v w s ini o vi x g cap) (q : B8) (hq : o.elem.tx.size + q.length ≤ 140737488351232) :
    Sc N P v (w.setCell ⟨g, ini.length * 7 + 5, none⟩ (.string (o.elem.tx ++ Sn.mk q))) { s with os := onLast (El.addTx · q) s.os } ∧ Fr P v w (w.setCell ⟨g, ini.length * 7 + 5, none⟩ (.string (o.elem.tx ++ Sn.mk q))) v := by
  have hgo : v.opn.ownBlock = some g := by rw [L.opn]; rfl
  have hst := (L.row.stored (ini.length * 7 + 5) (.string (o.elem.tx ++ Sn.mk q))).1
  have hxm : x ∈ v.os := by rw [L.vs]; simp
  have hix : ini.length < s.os.length := by rw [L.os]; simp
  have hiv : ini.length < v.os.length := by rw [L.vs]; simp [L.len]
  have eo : s.os[ini.length] = o := by simp only [L.os]; rw [List.getElem_append_right (Nat.le_refl _)]; simp
  have ev : v.os[ini.length] = x := by simp only [L.vs]; rw [List.getElem_append_right (by rw [L.len]; exact Nat.le_refl _)]; simp [L.len]
  have p := h.part ini.length hix hiv
  rw [eo, ev] at p
  have hev : ({ v with os := vi ++ [x] } : Vw) = v := by rw [← L.vs]
  have hres := h.putLast (w' := w.setCell ⟨g, ini.length * 7 + 5, none⟩ (.string (o.elem.tx ++ Sn.mk q))) L (o' := ⟨o.decl, o.name, El.addTx o.elem q⟩) (x' := x) ?_ ?_ ?_ ?_
  · rw [hev] at hres
    rw [L.os, onLast_snoc]
    exact hres
  · exact (Ow.refl _ w).set (fun _ => .inl rfl) _
  · have e1 : (cellsO ini vi ++ cells1 o x).set (ini.length * 7 + 5) (.string (o.elem.tx ++ Sn.mk q)) = cellsO ini vi ++ cells1 ⟨o.decl, o.name, El.addTx o.elem q⟩ x := by
      rw [List.set_append_right (ini.length * 7 + 5) _ (by rw [cellsO_len L.len]; omega), cellsO_len L.len, show ini.length * 7 + 5 - ini.length * 7 = 5 by omega, By.cat]
      cases o with
      | mk d n e => cases e with
        | mk sp nm a tx ks => rfl
    rw [e1] at hst
    exact hst
  · intro b e; exact .inl e
  · intro hf
    have hk : ∀ b, x.k.ownBlock = some b → (w.setCell ⟨g, ini.length * 7 + 5, none⟩ (.string (o.elem.tx ++ Sn.mk q))).heap[b]? = w.heap[b]? := fun b e => Below.heap_setCell _ _ _ _ (fun e2 => by
      obtain ⟨_, c, hc⟩ := h.kidsHeap hxm e
      obtain ⟨_, c2, hc2⟩ := own_heap h.opn hgo
      exact ne_of_type hc hc2 (by decide) e2)
    have p2 := p.fr hf hk
    obtain ⟨d, a, k, ⟨⟨z1, z2, z3, z4⟩, z5⟩, f⟩ := p2
    refine ⟨d, ?_, ?_, ?_, f⟩
    · cases o with
      | mk d n e => cases e with
        | mk sp nm a tx ks => exact a
    · cases o with
      | mk d n e => cases e with
        | mk sp nm a tx ks => exact k
    · cases o with
      | mk d n e => cases e with
        | mk sp nm a tx ks =>
          refine ⟨⟨z1, z2, ?_, z4⟩, z5⟩
          show (Sn.mk (tx.data.toList ++ q)).size ≤ _
          rw [Sn.mk_size, List.length_append, By.len_size]
          exact hq
/-- What characters answers: the number of what is wrong; the scanner, turned. -/
def ChrP (N P : Nat) (v : Vw) (s : St) (t : B8) (w : World) (e : Ending) (w' : World) : Prop := ∃ v', e = .returned (.int .i64 (chars s t).2.2) ∧ Sc N P v' w' (chars s t).1 ∧ Fr P v w w' v'
theorem ChrP.mk {N P : Nat} {v v' : Vw} {s s' : St} {t : B8} {w w' : World} {e : Ending} {n : Nat} (hc : chars s t = (s', Ev0, n)) (he : e = .returned (.int .i64 n)) (h : Sc N P v' w' s') (hf : Fr P v w w' v') : ChrP N P v s t w e w' :=
  ⟨v', by rw [hc]; exact he, by rw [hc]; exact h, hf⟩
set_option maxRecDepth 100000 in
set_option maxHeartbeats 8000000 in
theorem characters_any (N P : Nat) (v : Vw) (s : St) (t : ByteArray) (w : World) (h : Sc N P v w s) (ht : t.size ≤ 1048576) (hol : s.os.length ≤ 1048576) (hx : ∀ o ∈ s.os, o.elem.tx.size ≤ 1048576) :
    Calls Tryz.prog 71 #[.pointer (some ⟨P, 0, none⟩), .string t] w (ChrP N P v s t.data.toList w) := by
  have HS := Lib.hid h
  by_cases h1 : s.os.length ≤ 1
  · have I := Lib.hid (inStanza_any N P v s w h false (by simp; omega))
    have T : Hid (∀ W, Calls Tryz.prog 101 #[.string t] W fun e w' => e = .returned (.string (Sn.mk (trim t.data.toList))) ∧ Below W.heap.size W w') := Lib.hid (fun W => trim_any t W ht)
    have HT := Lib.hid (trim_blank t.data.toList)
    have HC := Lib.hid (chars_out (s := s) (t := t.data.toList) h1)
    have HML := Lib.hid (mk_list (trim t.data.toList))
    cases hb : t.data.toList.all bk with
    | true =>
      have e0 : trim t.data.toList = [] := HT.out.2 hb
      rw [e0] at T
      rw [hb] at HC
      clear h h1 ht hx HT hb e0 HML
      change Hid (∀ W, Calls Tryz.prog 101 #[.string t] W fun e w' => e = .returned (.string ⟨#[]⟩) ∧ Below W.heap.size W w') at T
      go_enter Tryz.func71, Tryz.ntmps71
      go_wp2_with fail
      refine I.out.mono ?_
      rintro r w1 ⟨rfl, rfl⟩
      go_wp2_with fail
      refine (T.out _).mono ?_
      rintro r w2 ⟨rfl, hb⟩
      have HB := Lib.hid hb
      clear hb
      go_wp2_with fail
      go_ret
      exact ChrP.mk HC.out rfl (HS.out.below HB.out) (Fr.below HB.out)
    | false =>
      have e0 : trim t.data.toList ≠ [] := fun e => by have := HT.out.1 e; rw [hb] at this; cases this
      rw [hb] at HC
      change Hid (∀ W, Calls Tryz.prog 101 #[.string t] W fun e w' => e = .returned (.string (Sn.mk (trim t.data.toList))) ∧ Below W.heap.size W w') at T
      obtain ⟨m1, m2, m3⟩ := nil_ne (a := Sn.mk (trim t.data.toList)) (by rw [HML.out]; exact e0)
      clear h h1 ht hx HT hb e0 HML
      generalize Sn.mk (trim t.data.toList) = TT at T m1 m2 m3
      go_enter Tryz.func71, Tryz.ntmps71
      go_wp2_with fail
      refine I.out.mono ?_
      rintro r w1 ⟨rfl, rfl⟩
      go_wp2_with fail
      refine (T.out _).mono ?_
      rintro r w2 ⟨rfl, hb⟩
      have HB := Lib.hid hb
      clear hb
      go_wp2_with fail
      go_ret
      exact ChrP.mk HC.out rfl (HS.out.below HB.out) (Fr.below HB.out)
  · have I := Lib.hid (inStanza_any N P v s w h true (by simp; omega))
    have Q := Lib.hid (quoted_any t w ht h.gd)
    unfold qv at Q
    have HC := Lib.hid (chars_in (s := s) (t := t.data.toList) h1)
    have hql := qt_len t.data.toList
    rw [By.len_size] at hql
    obtain ⟨ini, o, vi, x, g, cap, L⟩ := h.last (by intro e; rw [e] at h1; simp at h1)
    have hin : ini.length < 1048576 := by have := L.os; rw [this] at hol; simp at hol; omega
    have hox := hx o (by rw [L.os]; simp)
    have HL := Lib.hid L
    have HQL := Lib.hid hql
    have hts : (Sn.mk (qt t.data.toList).2).size ≤ 1048576 := by rw [Sn.mk_size]; omega
    have HMT := Lib.hid (mk_list (qt t.data.toList).2)
    generalize hqe : (qt t.data.toList).1 = qe at Q HC
    generalize hqt : (qt t.data.toList).2 = qx at Q HC HMT hts
    clear h h1 hx L hqe hqt hql
    generalize hTT : Sn.mk qx = TT at Q HMT hts
    have HTT := Lib.hid hTT
    clear hTT
    go_enter Tryz.func71, Tryz.ntmps71
    go_wp2_with fail
    refine I.out.mono ?_
    rintro r w1 ⟨rfl, rfl⟩
    go_wp2_with fail
    refine Q.out.mono ?_
    rintro r w2 ⟨rfl, hb⟩
    have HS2 := Lib.hid (HS.out.below hb)
    have HF2 := Lib.hid (Fr.below (P := P) (v := v) hb)
    clear hb Q I
    obtain ⟨⟨_, _, _, y3, _, _, _⟩, _⟩ := bxS HS2.out.box
    rw [HL.out.opn] at y3
    have M := Lib.hid (innermost_any P g ini.length cap w2 y3 hin)
    clear y3
    go_wp2_with fail
    refine M.out.mono ?_
    rintro r w3 ⟨rfl, hb⟩
    have HS3 := Lib.hid (HS2.out.below hb)
    have HF3 := Lib.hid (HF2.out.trans (Fr.below hb))
    clear hb M HS2 HF2
    have HL3 : Hid (Lst N P v w3 s ini o vi x g cap) := HL.out.at HS3.out
    obtain ⟨c5', f5⟩ := HL3.out.at7 5 (by decide)
    have c5 : w3.cell? ⟨g, ini.length * 7 + 5, none⟩ = some (.string o.elem.tx) := c5'
    clear c5'
    have hsz : o.elem.tx.size + TT.size ≤ 281474976710656 := by omega
    go_wp2_with fail
    go_ret
    obtain ⟨r1, r2⟩ := HS3.out.putTx HL3.out qx (by have := HMT.out; rw [← this, By.len_size]; omega)
    rw [HTT.out] at r1 r2
    exact ChrP.mk HC.out rfl r1 (HF3.out.trans r2)
end Go.Proofs.YtolnpfcncmcacaaGreatDoor

/- The contract of (*Scanner).fail: all ends. No condition. -/
namespace Go.Proofs.YtolnpfcncmcacaaGreatDoor
open Go.RowKit Go.Lib Go.Shelf Tg Sn

/-- Of a scanner to which nothing comes any more: its number of open elements, and its error. -/
def Dead (P : Nat) (w : World) (n e : Nat) : Prop := ∃ t q b a c z, w.heap[P]? = some (.cells #[t, q, b, .slice a n c, z, .bool true, .int .i64 (e : Int)] 62 (0, 0))
theorem setCell_heap {w : World} {b i : Nat} {cs : Array Value} {t : TypeId} {g : Nat × Nat} {u : Value} (h : w.heap[b]? = some (.cells cs t g)) (hg : g = (0, 0)) : (w.setCell ⟨b, i, none⟩ u).heap[b]? = some (.cells (cs.setIfInBounds i u) t (0, 0)) := by
  subst hg
  simp [World.setCell, Array.getElem?_modify, h]
theorem setCell_other {w : World} {b i k : Nat} {u : Value} (h : k ≠ b) : (w.setCell ⟨b, i, none⟩ u).heap[k]? = w.heap[k]? := Below.heap_setCell _ _ _ _ h
/-- 'clear' of a row of open elements. -/
theorem clear_row {w : World} {N n : Nat} {x : Value} {xs : List Value} (h : w.ownsRow N 155 7 x n xs) :
    ∃ w', (∀ ty, (Builtin.clear_ #[60] ty #[x]).run Tryz.prog w = .ok (.tuple #[]) w') ∧ Ow (fun b => x.ownBlock = some b) w w' := by
  rcases h.2 with ⟨rfl, h0⟩ | ⟨g, cap, cur, rfl, q1, q2, q3, q4, q5, q6⟩
  · exact ⟨w, fun ty => by simp [Builtin.clear_, run_underlying Tryz.underlying60], Ow.refl _ _⟩
  · cases n with
    | zero => exact ⟨w, fun ty => by simp [Builtin.clear_, run_underlying Tryz.underlying60], Ow.refl _ _⟩
    | succ m =>
      obtain ⟨z, hz, hzc⟩ : ∃ z, (zeroValue 155).run Tryz.prog w = .ok z w ∧ z = .agg #[.slice none 0 0, .string ⟨#[]⟩, .string ⟨#[]⟩, .string ⟨#[]⟩, .slice none 0 0, .string ⟨#[]⟩, .slice none 0 0] := ⟨_, by kernel_rfl, rfl⟩
      have hsz : (Builtin.zeroCells z.cells (m + 1)).toList.length = (m + 1) * 7 := by
        rw [hzc]; simp [Builtin.zeroCells, Value.cells]
      have h1 : ∀ v ∈ (Builtin.zeroCells z.cells (m + 1)).toList, v.oneCell' = true := by
        intro v hv
        rw [hzc] at hv
        simp only [Builtin.zeroCells, Value.cells, Array.mem_toList_iff, Array.mem_map] at hv
        obtain ⟨i, _, rfl⟩ := hv
        have hm : i % 7 < 7 := Nat.mod_lt _ (by decide)
        change (#[Value.slice none 0 0, .string ⟨#[]⟩, .string ⟨#[]⟩, .string ⟨#[]⟩, .slice none 0 0, .string ⟨#[]⟩, .slice none 0 0][i % 7]!).oneCell' = true
        generalize i % 7 = j at hm
        have : j = 0 ∨ j = 1 ∨ j = 2 ∨ j = 3 ∨ j = 4 ∨ j = 5 ∨ j = 6 := by omega
        rcases this with rfl | rfl | rfl | rfl | rfl | rfl | rfl <;> rfl
      have hst := run_storeCells_at Tryz.prog g 0 155 _ 0 cur w q2 (by rw [hsz]; omega) h1
      obtain ⟨W', hW'⟩ : ∃ W', w.setRow g (cur.toList.take (0 + 0) ++ (Builtin.zeroCells z.cells (m + 1)).toList ++ cur.toList.drop (0 + 0 + (Builtin.zeroCells z.cells (m + 1)).toList.length)).toArray = W' := ⟨_, rfl⟩
      rw [hW'] at hst
      refine ⟨W', fun ty => by simp [Builtin.clear_, run_underlying Tryz.underlying60, hz, hst], ?_⟩
      rw [← hW']
      exact ⟨rfl, rfl, rfl, by simp [World.setRow], fun b hb hx => by
        have : b ≠ g := fun e => hx (by rw [e]; rfl)
        simp [World.setRow, Array.getElem?_modify, Ne.symm this]⟩
theorem Ow.set7 {X : Nat → Prop} {w w1 : World} {E : Nat} (h : Ow X w w1) (hE : w.heap.size ≤ E) (v0 v1 v2 v3 v4 v5 v6 : Value) :
    Ow X w (((((((w1.setCell ⟨E, 0, none⟩ v0).setCell ⟨E, 1, none⟩ v1).setCell ⟨E, 2, none⟩ v2).setCell ⟨E, 3, none⟩ v3).setCell ⟨E, 4, none⟩ v4).setCell ⟨E, 5, none⟩ v5).setCell ⟨E, 6, none⟩ v6) := by
  have hn : ∀ {i : Nat}, (⟨E, i, none⟩ : Addr).block < w.heap.size → X (⟨E, i, none⟩ : Addr).block := fun {i} hlt => absurd (show E < w.heap.size from hlt) (by omega)
  exact ((((((h.set hn _).set hn _).set hn _).set hn _).set hn _).set hn _).set hn _
theorem heap7 {w1 : World} {E b : Nat} (hb : b ≠ E) (v0 v1 v2 v3 v4 v5 v6 : Value) :
    (((((((w1.setCell ⟨E, 0, none⟩ v0).setCell ⟨E, 1, none⟩ v1).setCell ⟨E, 2, none⟩ v2).setCell ⟨E, 3, none⟩ v3).setCell ⟨E, 4, none⟩ v4).setCell ⟨E, 5, none⟩ v5).setCell ⟨E, 6, none⟩ v6).heap[b]? = w1.heap[b]? := by
  have hne : ∀ (W : World) (i : Nat) (u : Value), (W.setCell ⟨E, i, none⟩ u).heap[b]? = W.heap[b]? := fun W i u => Below.heap_setCell _ _ _ _ hb
  rw [hne, hne, hne, hne, hne, hne, hne]
/-- What fail answers, and leaves. -/
def FlP (P : Nat) (v : Vw) (s : St) (er : Nat) (w : World) (e : Ending) (w' : World) : Prop := e = .returned (.agg #[.int .i64 4, .string ⟨#[]⟩, .string ⟨#[]⟩, .slice none 0 0, .string ⟨#[]⟩, .slice none 0 0, .int .i64 er]) ∧ Dead P w' s.os.length er ∧ Fr P v w w' { Vw0 with far := v.far }
theorem vw0_mut {P b : Nat} {f : Nat → Prop} (h : Mut P { Vw0 with far := f } b) : b = P := by
  rcases h with h | h | h | ⟨x, h, _⟩
  · exact h
  · cases h
  · cases h
  · cases h
set_option maxRecDepth 100000 in
set_option maxHeartbeats 400000 in
theorem fail_any (N P : Nat) (v : Vw) (s : St) (er : Nat) (w : World) (h : Sc N P v w s) :
    Calls Tryz.prog 27 #[.pointer (some ⟨P, 0, none⟩), .int .i64 (er : Int)] w (FlP P v s er w) := by
  obtain ⟨oa, oc, hopn⟩ := h.opnIs
  have hPl := h.boxlt
  obtain ⟨W3, hW3⟩ : ∃ W, (((w.setCell ⟨P, 5, none⟩ (.bool true)).setCell ⟨P, 6, none⟩ (.int .i64 (er : Int))).setCell ⟨P, 0, none⟩ (.slice none 0 0)).alloc (.cells #[.int .i64 0, .string ⟨#[]⟩, .string ⟨#[]⟩, .slice none 0 0, .string ⟨#[]⟩, .slice none 0 0, .int .i64 0] 50) = W := ⟨_, rfl⟩
  have o3 : Ow (fun b => b = P) w W3 := by
    rw [← hW3]
    have o0 : Ow (fun b => b = P) w w := Ow.refl _ w
    have o1 := o0.set (a := ⟨P, 5, none⟩) (fun _ => rfl) (.bool true)
    have o2 := o1.set (a := ⟨P, 6, none⟩) (fun _ => rfl) (.int .i64 (er : Int))
    exact (o2.set (a := ⟨P, 0, none⟩) (fun _ => rfl) (.slice none 0 0)).alloc _
  have b3 : W3.heap[P]? = some (.cells #[.slice none 0 0, .int .u8 (s.quote : Int), .bool s.begun, v.opn, .int .i64 (s.size : Int), .bool true, .int .i64 (er : Int)] 62 (0, 0)) := by
    rw [← hW3]
    refine (Below.heap_alloc _ _ _ (by simpa [World.setCell] using hPl)).trans ?_
    exact setCell_heap (setCell_heap (setCell_heap h.box rfl) rfl) rfl
  have r3 : W3.heap[w.heap.size]? = some (.cells #[.int .i64 0, .string ⟨#[]⟩, .string ⟨#[]⟩, .slice none 0 0, .string ⟨#[]⟩, .slice none 0 0, .int .i64 0] 50 (0, 0)) := by
    have := box_new (((w.setCell ⟨P, 5, none⟩ (.bool true)).setCell ⟨P, 6, none⟩ (.int .i64 (er : Int))).setCell ⟨P, 0, none⟩ (.slice none 0 0)) #[.int .i64 0, .string ⟨#[]⟩, .string ⟨#[]⟩, .slice none 0 0, .string ⟨#[]⟩, .slice none 0 0, .int .i64 0] 50
    rw [← hW3]
    simpa [World.setCell] using this
  have n3 : ∀ b, v.opn.ownBlock = some b → b ≠ P ∧ b < w.heap.size := fun b e => (own_heap h.opn e).2.elim fun c hc => ⟨ne_of_type hc h.box (by decide), heap_lt hc⟩
  have own3 := own_keep (w' := W3) h.opn fun b e => o3.block b (n3 b e).2 (n3 b e).1
  obtain ⟨W4, hcl, o4⟩ := clear_row own3
  rw [hopn, ← hW3] at hcl
  have b4 : W4.heap[P]? = some (.cells #[.slice none 0 0, .int .u8 (s.quote : Int), .bool s.begun, .slice oa s.os.length oc, .int .i64 (s.size : Int), .bool true, .int .i64 (er : Int)] 62 (0, 0)) := by
    rw [← hopn]
    exact (o4.block P (heap_lt b3) (fun e => (n3 P e).1 rfl)).trans b3
  have r4 : W4.heap[w.heap.size]? = some (.cells #[.int .i64 0, .string ⟨#[]⟩, .string ⟨#[]⟩, .slice none 0 0, .string ⟨#[]⟩, .slice none 0 0, .int .i64 0] 50 (0, 0)) := (o4.block _ (heap_lt r3) (fun e => by have := (n3 _ e).2; omega)).trans r3
  have HO : Hid (Ow (Mut P v) w W4) := (o3.weak fun b e => .inl e).trans o4 fun b _ e => .inr (.inr (.inl e))
  have HB4 := Lib.hid b4
  have HR4 := Lib.hid r4
  have HC := Lib.hid hcl
  have HP := Lib.hid hPl
  obtain ⟨⟨x0, x1, x2, x3, x4, x5, x6⟩, fx⟩ := bxS h.box
  have fx0 := fx 0
  have fx3 := fx 3
  have fx5 := fx 5
  have fx6 := fx 6
  rw [hopn] at x3
  clear o3 b3 r3 n3 own3 o4 b4 r4 hW3 hcl h fx
  go_enter Tryz.func27, Tryz.ntmps27
  obtain ⟨z0, z1, z2, z3, z4, z5, z6⟩ := bx7 HR4.out
  have fz := fun i => Lib.frozen_of_heap HR4.out i
  have fz0 := fz 0
  have fz1 := fz 1
  have fz2 := fz 2
  have fz3 := fz 3
  have fz4 := fz 4
  have fz5 := fz 5
  have fz6 := fz 6
  clear fz
  go_wp2_with (simp only [HC.out])
  exact bodyPost_ret (v := .agg #[.int .i64 4, .string ⟨#[]⟩, .string ⟨#[]⟩, .slice none 0 0, .string ⟨#[]⟩, .slice none 0 0, .int .i64 (er : Int)]) (by simp [results, Tryz.results27, go_sem, z0, z1, z2, z3, z4, z5, z6]) rfl ⟨rfl, ⟨_, _, _, _, _, _, (heap7 (by omega) _ _ _ _ _ _ _).trans HB4.out⟩, Fr.of (HO.out.set7 (Nat.le_refl _) _ _ _ _ _ _ _) fun b hb => .inl (.inl (vw0_mut hb))⟩
end Go.Proofs.YtolnpfcncmcacaaGreatDoor

/- The contract of (*Scanner).shut: the innermost element ends. Condition: an element has at most 1048576 children. -/
namespace Go.Proofs.YtolnpfcncmcacaaGreatDoor
open Go.RowKit Go.Lib Go.Shelf Tg Sn

/-- An event in memory: its value, its element in blocks of S. -/
def EvS (S : Nat → Prop) (w : World) (ev : Ev) (x : Value) : Prop := ∃ v0 v1 v2 v3 v4, x = .agg #[.int .i64 (ev.kind : Int), v0, v1, v2, v3, v4, .int .i64 (ev.err : Int)] ∧ InS S w ev.elem (.agg #[v0, v1, v2, v3, v4])
theorem EvS.fr {N P : Nat} {v v' : Vw} {w w' : World} {ev : Ev} {x : Value} (h : EvS (Imm N P v) w ev x) (hf : Fr P v w w' v') : EvS (Imm N P v') w' ev x := by
  obtain ⟨v0, v1, v2, v3, v4, e, hi⟩ := h
  exact ⟨v0, v1, v2, v3, v4, e, hi.fr hf⟩
theorem EvS.zero (S : Nat → Prop) (w : World) (k e : Nat) : EvS S w ⟨k, El0, e⟩ (.agg #[.int .i64 (k : Int), .string ⟨#[]⟩, .string ⟨#[]⟩, .slice none 0 0, .string ⟨#[]⟩, .slice none 0 0, .int .i64 (e : Int)]) := ⟨_, _, _, _, _, rfl, InS.zero S w⟩
/-- A scanner in that state, or one to which nothing comes any more. -/
def Scn (N P : Nat) (v : Vw) (w : World) (s : St) : Prop := (s.over = false → Sc N P v w s) ∧ (s.over = true → Dead P w s.os.length s.err ∧ ∀ b, Mut P v b → b = P)
/-- A row cut to fewer. -/
theorem own_take {w : World} {N k m sz g cap : Nat} {T : TypeId} {l : List Value} (h : w.ownsRow N T sz (.slice (some ⟨g, 0, none⟩) m cap) m l) (hk : k ≤ m) : w.ownsRow N T sz (.slice (some ⟨g, 0, none⟩) k cap) k (l.take (k * sz)) := by
  have hle : k * sz ≤ m * sz := Nat.mul_le_mul_right _ hk
  refine ⟨by rw [List.length_take, h.1, Nat.min_eq_left hle], ?_⟩
  rcases h.2 with ⟨h', _⟩ | ⟨g', cap', cur, h', q1, q2, q3, q4, q5, q6⟩
  · cases h'
  · cases h'
    exact .inr ⟨_, _, cur, rfl, q1, q2, Nat.le_trans hk q3, q4, q5, by rw [← q6, List.take_take, Nat.min_eq_left hle]⟩
theorem take_set {α : Type _} {l : List α} {k j : Nat} {u : α} (h : k ≤ j) : (l.set j u).take k = l.take k := by
  rw [List.take_set, List.set_eq_of_length_le (by simp; omega)]
/-- In the middle of a call: the box, the row of the open elements, and a cell of the call's own for its answer. -/
structure Mid (X : Nat → Prop) (N P g R n cap : Nat) (w W : World) (bc : Array Value) (l : List Value) : Prop where
  ow : Ow X w W
  box : W.heap[P]? = some (.cells bc 62 (0, 0))
  row : W.ownsRow N 155 7 (.slice (some ⟨g, 0, none⟩) n cap) n l
  r : W.heap[R]? = some (.cells #[.int .i64 0, .string ⟨#[]⟩, .string ⟨#[]⟩, .slice none 0 0, .string ⟨#[]⟩, .slice none 0 0, .int .i64 0] 50 (0, 0))
  ne : P ≠ g ∧ R ≠ P ∧ R ≠ g ∧ w.heap.size ≤ R
  x : X P ∧ X g
section
variable {X : Nat → Prop} {N P g R n cap : Nat} {w W W' : World} {bc : Array Value} {l : List Value}
theorem Mid.glt (h : Mid X N P g R n cap w W bc l) : g < W.heap.size := by
  obtain ⟨_, c, hc⟩ := own_heap h.row (b := g) rfl
  exact heap_lt hc
theorem Mid.call (h : Mid X N P g R n cap w W bc l) (hb : Below W.heap.size W W') : Mid X N P g R n cap w W' bc l :=
  ⟨h.ow.call hb, (hb.block _ (heap_lt h.box)).trans h.box, own_keep h.row (fun b e => hb.block _ (by cases e; exact h.glt)), (hb.block _ (heap_lt h.r)).trans h.r, h.ne, h.x⟩
theorem Mid.setG (h : Mid X N P g R n cap w W bc l) (j : Nat) (u : Value) : Mid X N P g R n cap w (W.setCell ⟨g, j, none⟩ u) bc (l.set j u) :=
  ⟨h.ow.set (fun _ => h.x.2) _, (setCell_other h.ne.1).trans h.box, (h.row.stored j u).1, (setCell_other h.ne.2.2.1).trans h.r, h.ne, h.x⟩
theorem Mid.setP (h : Mid X N P g R n cap w W bc l) (i : Nat) (u : Value) : Mid X N P g R n cap w (W.setCell ⟨P, i, none⟩ u) (bc.setIfInBounds i u) l :=
  ⟨h.ow.set (fun _ => h.x.1) _, setCell_heap h.box rfl, own_keep h.row (fun b e => by cases e; exact setCell_other (Ne.symm h.ne.1)), (setCell_other h.ne.2.1).trans h.r, h.ne, h.x⟩
theorem Mid.cell (h : Mid X N P g R n cap w W bc l) (j : Nat) (hj : j < n * 7) : W.cell? ⟨g, j, none⟩ = l[j]? ∧ W.frozen? ⟨g, j, none⟩ = false := ⟨h.row.cellAt _ hj, h.row.frozenAt _⟩
theorem Mid.take {k : Nat} (h : Mid X N P g R n cap w W bc l) (hk : k ≤ n) : Mid X N P g R k cap w W bc (l.take (k * 7)) := ⟨h.ow, h.box, own_take h.row hk, h.r, h.ne, h.x⟩
end
def z7 : List Value := [.slice none 0 0, .string ⟨#[]⟩, .string ⟨#[]⟩, .string ⟨#[]⟩, .slice none 0 0, .string ⟨#[]⟩, .slice none 0 0]
theorem Mid.wipe {X : Nat → Prop} {N P g R n cap : Nat} {w W : World} {bc : Array Value} {l : List Value} (h : Mid X N P g R (n + 1) cap w W bc l) (v0 v1 v2 v3 v4 v5 v6 : Value) :
    Mid X N P g R n cap w (((((((W.setCell ⟨g, n * 7, none⟩ v0).setCell ⟨g, n * 7 + 1, none⟩ v1).setCell ⟨g, n * 7 + 2, none⟩ v2).setCell ⟨g, n * 7 + 3, none⟩ v3).setCell ⟨g, n * 7 + 4, none⟩ v4).setCell ⟨g, n * 7 + 5, none⟩ v5).setCell ⟨g, n * 7 + 6, none⟩ v6) bc (l.take (n * 7)) := by
  have := (((((((h.setG (n * 7) v0).setG (n * 7 + 1) v1).setG (n * 7 + 2) v2).setG (n * 7 + 3) v3).setG (n * 7 + 4) v4).setG (n * 7 + 5) v5).setG (n * 7 + 6) v6).take (Nat.le_succ n)
  rw [take_set (by omega), take_set (by omega), take_set (by omega), take_set (by omega), take_set (by omega), take_set (by omega), take_set (by omega)] at this
  exact this
theorem Mid.start {N P : Nat} {v : Vw} {w : World} {s : St} (h : Sc N P v w s) {ini : List Sn.Op} {o : Sn.Op} {vi : List Ov} {x : Ov} {g cap : Nat} (L : Lst N P v w s ini o vi x g cap) (X : Nat → Prop) (hX : X P ∧ X g) :
    Mid X N P g w.heap.size (ini.length + 1) cap w (w.alloc (.cells #[.int .i64 0, .string ⟨#[]⟩, .string ⟨#[]⟩, .slice none 0 0, .string ⟨#[]⟩, .slice none 0 0, .int .i64 0] 50)) (scells v s) (cellsO ini vi ++ cells1 o x) := by
  have hgo : v.opn.ownBlock = some g := by rw [L.opn]; rfl
  obtain ⟨_, c, hc⟩ := own_heap h.opn hgo
  have hg := heap_lt hc
  have hP := h.boxlt
  exact ⟨(Ow.refl _ w).alloc _, (Below.heap_alloc _ _ _ hP).trans h.box, L.row.alloc _, box_new w _ _, ⟨fun e => ne_of_type hc h.box (by decide) e.symm, by omega, by omega, Nat.le_refl _⟩, hX⟩
theorem Sc.lastPart {N P : Nat} {v : Vw} {w w0 : World} {s : St} (h : Sc N P v w s) {ini : List Sn.Op} {o : Sn.Op} {vi : List Ov} {x : Ov} {g cap : Nat} (L : Lst N P v w0 s ini o vi x g cap) : Part N (Imm N P v) w o x := by
  have hix : ini.length < s.os.length := by rw [L.os]; simp
  have hiv : ini.length < v.os.length := by rw [L.vs]; simp [L.len]
  have eo : s.os[ini.length] = o := by simp only [L.os]; rw [List.getElem_append_right (Nat.le_refl _)]; simp
  have ev : v.os[ini.length] = x := by simp only [L.vs]; rw [List.getElem_append_right (by rw [L.len]; exact Nat.le_refl _)]; simp [L.len]
  have p := h.part ini.length hix hiv
  rwa [eo, ev] at p
/-- What shut answers. -/
def ShP (N P : Nat) (v : Vw) (s : St) (w : World) (e : Ending) (w' : World) : Prop := ∃ v' val, e = .returned val ∧ EvS (Imm N P v') w' (shut s).2 val ∧ Scn N P v' w' (shut s).1 ∧ Fr P v w w' v'

theorem gfroz {w w' : World} {N n sz g cap : Nat} {T : TypeId} {l : List Value} (h : w.ownsRow N T sz (.slice (some ⟨g, 0, none⟩) n cap) n l) (hb : w'.heap[g]? = w.heap[g]?) (j : Nat) : w'.frozen? ⟨g, j, none⟩ = false := by
  obtain ⟨_, c, hc⟩ := own_heap h (b := g) rfl
  exact Lib.frozen_of_heap (hb.trans hc) j
theorem newKid {w : World} {N G n cap : Nat} {xs : List Value} {a0 a1 a2 a3 a4 : Value} (h : w.ownsRow N 48 5 (.slice (some ⟨G, 0, none⟩) (n + 1) cap) (n + 1) (xs ++ [a0, a1, a2, a3, a4])) (hl : xs.length = n * 5) :
    (w.cell? ⟨G, n * 5, none⟩ = some a0 ∧ w.cell? ⟨G, n * 5 + 1, none⟩ = some a1 ∧ w.cell? ⟨G, n * 5 + 2, none⟩ = some a2 ∧ w.cell? ⟨G, n * 5 + 3, none⟩ = some a3 ∧ w.cell? ⟨G, n * 5 + 4, none⟩ = some a4) ∧ ∀ j, w.frozen? ⟨G, j, none⟩ = false := by
  have hc : ∀ j, j < 5 → w.cell? ⟨G, n * 5 + j, none⟩ = ([a0, a1, a2, a3, a4] : List Value)[j]? := fun j hj => by
    rw [h.cellAt _ (by omega), List.getElem?_append_right (by omega), hl]
    congr 1; omega
  exact ⟨⟨hc 0 (by decide), hc 1 (by decide), hc 2 (by decide), hc 3 (by decide), hc 4 (by decide)⟩, fun j => h.frozenAt _⟩
theorem infoElem : (Tryz.prog.info? 48).map (fun i => (i.zero, i.size, i.bytes)) = some (some (.agg #[.string ⟨#[]⟩, .string ⟨#[]⟩, .slice none 0 0, .string ⟨#[]⟩, .slice none 0 0]), 5, 96) := by kernel_rfl
theorem shut_eq0 {s : St} {ini : List Sn.Op} {o : Sn.Op} (h : s.os = ini ++ [o]) (hn : ini.length = 0) : shut s = ({ s with os := ini, over := true }, ⟨3, El0, 0⟩) := by
  unfold shut
  simp only [h, List.dropLast_concat, List.getLast?_concat, Option.getD_some]
  rw [if_pos hn]
theorem shut_eq1 {s : St} {ini : List Sn.Op} {o : Sn.Op} (h : s.os = ini ++ [o]) (hn : ini.length = 1) : shut s = ({ s with os := ini }, ⟨2, o.elem, 0⟩) := by
  unfold shut
  simp only [h, List.dropLast_concat, List.getLast?_concat, Option.getD_some]
  rw [if_neg (by omega), if_pos hn]
theorem shut_eq2 {s : St} {ini : List Sn.Op} {o o1 : Sn.Op} (h : s.os = (ini ++ [o1]) ++ [o]) (hn : ini.length ≠ 0) : shut s = ({ s with os := ini ++ [⟨o1.decl, o1.name, El.addKid o1.elem o.elem⟩] }, Ev0) := by
  unfold shut
  simp only [h, List.dropLast_concat, List.getLast?_concat, Option.getD_some]
  rw [if_neg (by simp), if_neg (by simpa using hn), onLast_snoc]
theorem bx7e {w : World} {b : Nat} {v0 v1 v2 v3 v4 v5 v6 : Value} {T : TypeId} (h : w.heap[b]? = some (.cells #[v0, v1, v2, v3, v4, v5, v6] T (0, 0))) : ∀ i, w.frozen? ⟨b, i, none⟩ = false := fun i => Lib.frozen_of_heap h i

theorem ShP.top {N P : Nat} {v : Vw} {s : St} {w W : World} {ini : List Sn.Op} {X : Nat → Prop} {g R n cap : Nat} {bc : Array Value} {l : List Value} {t q bg z : Value} {a : Option Addr} {c : Nat} {v0 v1 v2 v3 v4 v5 v6 : Value}
    (hsh : shut s = ({ s with os := ini, over := true }, ⟨3, El0, 0⟩)) (hm : Mid X N P g R n cap w W bc l) (hX : ∀ b, X b → Mut P v b) (hbc : bc = #[t, q, bg, .slice a ini.length c, z, .bool true, .int .i64 (s.err : Int)]) :
    ShP N P v s w (.returned (.agg #[.int .i64 3, .string ⟨#[]⟩, .string ⟨#[]⟩, .slice none 0 0, .string ⟨#[]⟩, .slice none 0 0, .int .i64 0]))
      (((((((W.setCell ⟨R, 0, none⟩ v0).setCell ⟨R, 1, none⟩ v1).setCell ⟨R, 2, none⟩ v2).setCell ⟨R, 3, none⟩ v3).setCell ⟨R, 4, none⟩ v4).setCell ⟨R, 5, none⟩ v5).setCell ⟨R, 6, none⟩ v6) := by
  refine ⟨{ Vw0 with far := v.far }, _, rfl, by rw [hsh]; exact EvS.zero _ _ 3 0, ?_, Fr.of ((hm.ow.weak hX).set7 hm.ne.2.2.2 _ _ _ _ _ _ _) fun b hb => .inl (.inl (vw0_mut hb))⟩
  rw [hsh]
  refine ⟨fun h => (by cases h), fun _ => ⟨⟨t, q, bg, a, c, z, ?_⟩, fun b hb => vw0_mut hb⟩⟩
  rw [heap7 (Ne.symm hm.ne.2.1), hm.box, hbc]

/-- An open element has ended; the one around it has turned. -/
theorem Sc.shutTo {N P : Nat} {v : Vw} {w WF : World} {s : St} (h : Sc N P v w s) {ini : List Sn.Op} {o o1 o2 : Sn.Op} {vi : List Ov} {x x1 x2 : Ov} {g cap : Nat} (L : Lst N P v w s (ini ++ [o1]) o (vi ++ [x1]) x g cap) (hkl : o.elem.ks.length ≤ maxLen)
    (ho : Ow (fun b => b = P ∨ b = g ∨ x1.k.ownBlock = some b) w WF)
    (hb : WF.heap[P]? = some (.cells (scells { v with opn := .slice (some ⟨g, 0, none⟩) (ini.length + 1) cap, os := vi ++ [x1] } { s with os := ini ++ [o1] }) 62 (0, 0)))
    (hr : WF.ownsRow N 155 7 (.slice (some ⟨g, 0, none⟩) (ini.length + 1) cap) (ini.length + 1) (cellsO ini vi ++ cells1 o2 x2))
    (hk : ∀ b, x2.k.ownBlock = some b → x1.k.ownBlock = some b ∨ w.heap.size ≤ b)
    (hp : ∀ W' v1 v2, (∀ b, b ≠ P → W'.heap[b]? = w.heap[b]?) → W'.heap.size = w.heap.size → Part N (Imm N P v1) W' o1 x1 → InS (Imm N P v1) W' o.elem (elV o x) → Fr P v1 W' WF v2 → Fr P v w WF v2 → Part N (Imm N P v2) WF o2 x2) :
    ∃ v2, Sc N P v2 WF { s with os := ini ++ [o2] } ∧ Fr P v w WF v2 ∧ InS (Imm N P v2) WF o.elem (elV o x) := by
  have hlen : vi.length = ini.length := by have := L.len; simpa using this
  have hgo : v.opn.ownBlock = some g := by rw [L.opn]; rfl
  have hPg : P ≠ g := by
    obtain ⟨_, c, hc⟩ := own_heap h.opn hgo
    exact fun e => ne_of_type hc h.box (by decide) e.symm
  have hL1 : (ini ++ [o1]).length = ini.length + 1 := by simp
  have hrow := L.row
  rw [hL1] at hrow
  have hD := h.drop (w' := w.setCell ⟨P, 3, none⟩ (.slice (some ⟨g, 0, none⟩) (ini.length + 1) cap)) L hkl ((Ow.refl _ w).set (fun _ => .inl rfl) _)
    (by rw [hL1]; exact setCell_heap h.box rfl)
    (by
      rw [hL1]
      refine own_keep ?_ (fun b e => by cases e; exact setCell_other (Ne.symm hPg))
      have ht := own_take hrow (Nat.le_succ (ini.length + 1))
      have e2 : (cellsO (ini ++ [o1]) (vi ++ [x1]) ++ cells1 o x).take ((ini.length + 1) * 7) = cellsO (ini ++ [o1]) (vi ++ [x1]) := by
        have hl := cellsO_len L.len
        rw [hL1] at hl
        rw [List.take_append_of_le_length (by omega), List.take_of_length_le (by omega)]
      rwa [e2] at ht)
  rw [hL1] at hD
  obtain ⟨⟨hS1, hF1⟩, hI1⟩ := hD
  obtain ⟨W', hW'⟩ : ∃ W', w.setCell ⟨P, 3, none⟩ (.slice (some ⟨g, 0, none⟩) (ini.length + 1) cap) = W' := ⟨_, rfl⟩
  have hsz : W'.heap.size = w.heap.size := by rw [← hW']; simp [World.setCell]
  have hot : ∀ b, b ≠ P → W'.heap[b]? = w.heap[b]? := fun b e => by rw [← hW']; exact setCell_other e
  rw [hW'] at hS1 hF1 hI1
  obtain ⟨ini3, o3, vi3, x3, g3, cap3, L3⟩ := hS1.last (by simp)
  have e1 : ini3 = ini ∧ o3 = o1 := by
    have := L3.os
    simp only [List.append_singleton_inj] at this
    exact ⟨this.1.symm, this.2.symm⟩
  have e2 : vi3 = vi ∧ x3 = x1 := by
    have := L3.vs
    simp only [List.append_singleton_inj] at this
    exact ⟨this.1.symm, this.2.symm⟩
  obtain ⟨rfl, rfl⟩ := e1
  obtain ⟨rfl, rfl⟩ := e2
  have e3 := L3.opn
  simp only [Value.slice.injEq, Option.some.injEq, Addr.mk.injEq, and_true, true_and] at e3
  obtain ⟨rfl, rfl⟩ := e3
  have hboxW := hS1.box
  have hput := hS1.putLast L3 (o' := o2) (x' := x2) (w' := WF) ⟨by rw [ho.os, ← hW']; rfl, by rw [ho.tape, ← hW']; rfl, by rw [ho.output, ← hW']; rfl, by rw [hsz]; exact ho.size, fun b hb1 hx => by
      by_cases hbP : b = P
      · subst hbP; rw [hb, hboxW]
      · rw [hot b hbP]
        exact ho.block b (by rw [← hsz]; exact hb1) (fun e => by
          rcases e with e | e | e
          · exact hbP e
          · exact hx (.inl e)
          · exact hx (.inr e))⟩ hr (fun b e => by rw [hsz]; exact hk b e) (fun hf => hp W' _ _ hot hsz (hS1.lastPart L3) hI1 hf (hF1.trans hf))
  exact ⟨_, hput.1, hF1.trans hput.2, hI1.fr hput.2⟩
theorem ShP.one {N P : Nat} {v : Vw} {s : St} {w W : World} {ini : List Sn.Op} {o : Sn.Op} {vi : List Ov} {x : Ov} {g cap R : Nat} {bc : Array Value} {v0 v1 v2 v3 v4 v5 v6 : Value}
    (h : Sc N P v w s) (hov : s.over = false) (L : Lst N P v w s ini o vi x g cap) (hkl : o.elem.ks.length ≤ maxLen) (hn : ini.length = 1)
    (hm : Mid (fun b => b = P ∨ b = g) N P g R ini.length cap w W bc (cellsO ini vi)) (hbc : bc = scells { v with opn := .slice (some ⟨g, 0, none⟩) ini.length cap, os := vi } { s with os := ini }) :
    ShP N P v s w (.returned (.agg #[.int .i64 2, .string o.elem.sp, .string o.elem.nm, x.a, .string o.elem.tx, x.k, .int .i64 0]))
      (((((((W.setCell ⟨R, 0, none⟩ v0).setCell ⟨R, 1, none⟩ v1).setCell ⟨R, 2, none⟩ v2).setCell ⟨R, 3, none⟩ v3).setCell ⟨R, 4, none⟩ v4).setCell ⟨R, 5, none⟩ v5).setCell ⟨R, 6, none⟩ v6) := by
  obtain ⟨q1, q2, q3, q4⟩ := hm.ne
  match ini, vi, L.len, hn with
  | [o1], [x1], _, _ =>
    have how := hm.ow.set7 q4 v0 v1 v2 v3 v4 v5 v6
    have hsh := shut_eq1 L.os rfl
    obtain ⟨vf, r1, r2, r3⟩ := h.shutTo (ini := []) (vi := []) (o2 := o1) (x2 := x1) L hkl (how.weak fun b e => e.elim .inl fun e => .inr (.inl e))
      ((heap7 (Ne.symm q2) _ _ _ _ _ _ _).trans (by rw [hm.box, hbc]; rfl))
      (own_keep (show W.ownsRow N 155 7 _ _ (cellsO [] [] ++ cells1 o1 x1) by simpa [cellsO] using hm.row) (fun b e => by cases e; exact heap7 (Ne.symm q3) _ _ _ _ _ _ _))
      (fun b e => .inl e)
      (fun W' va vb hot hsz p1 _ hf _ => p1.fr hf fun b e => by
        obtain ⟨xs, k1, _⟩ := p1.k
        obtain ⟨_, c, hc⟩ := own_heap k1 e
        have hbw : b < w.heap.size := by rw [← hsz]; exact heap_lt hc
        have hx1 : x1 ∈ v.os := by rw [L.vs]; simp
        obtain ⟨_, c2, hc2⟩ := h.kidsHeap hx1 e
        have hbP : b ≠ P := fun e2 => ne_of_type hc2 h.box (by decide) e2
        have hgo : v.opn.ownBlock = some g := by rw [L.opn]; rfl
        obtain ⟨_, c3, hc3⟩ := own_heap h.opn hgo
        have hbg : b ≠ g := fun e2 => ne_of_type hc2 hc3 (by decide) e2
        rw [hot b hbP]
        exact how.block b hbw (fun e2 => e2.elim hbP hbg))
    refine ⟨vf, _, rfl, ?_, ?_, r2⟩
    · rw [hsh]; exact ⟨_, _, _, _, _, rfl, r3⟩
    · rw [hsh]; exact ⟨fun _ => r1, fun hc => by rw [hov] at hc; cases hc⟩

theorem set_comm {w : World} {a b : Addr} {u v : Value} (h : a.block ≠ b.block) : (w.setCell a u).setCell b v = (w.setCell b v).setCell a u := by
  simp only [World.setCell]
  congr 1
  apply Array.ext_getElem?
  intro i
  simp only [Array.getElem?_modify]
  by_cases h1 : b.block = i
  · subst h1
    simp [h]
  · simp [h1]
theorem set_comm5 {w : World} {g G j o : Nat} {u v0 v1 v2 v3 v4 : Value} (h : g ≠ G) :
    (((((w.setCell ⟨g, j, none⟩ u).setCell ⟨G, o, none⟩ v0).setCell ⟨G, o + 1, none⟩ v1).setCell ⟨G, o + 2, none⟩ v2).setCell ⟨G, o + 3, none⟩ v3).setCell ⟨G, o + 4, none⟩ v4 =
      (((((w.setCell ⟨G, o, none⟩ v0).setCell ⟨G, o + 1, none⟩ v1).setCell ⟨G, o + 2, none⟩ v2).setCell ⟨G, o + 3, none⟩ v3).setCell ⟨G, o + 4, none⟩ v4).setCell ⟨g, j, none⟩ u := by
  have hc : ∀ (W : World) (i : Nat) (x : Value), (W.setCell ⟨g, j, none⟩ u).setCell ⟨G, i, none⟩ x = (W.setCell ⟨G, i, none⟩ x).setCell ⟨g, j, none⟩ u := fun W i x => set_comm h
  rw [hc, hc, hc, hc, hc]

theorem heap5 {w1 : World} {E b o : Nat} (hb : b ≠ E) (v0 v1 v2 v3 v4 : Value) :
    (((((w1.setCell ⟨E, o, none⟩ v0).setCell ⟨E, o + 1, none⟩ v1).setCell ⟨E, o + 2, none⟩ v2).setCell ⟨E, o + 3, none⟩ v3).setCell ⟨E, o + 4, none⟩ v4).heap[b]? = w1.heap[b]? := by
  rw [setCell_other hb, setCell_other hb, setCell_other hb, setCell_other hb, setCell_other hb]
theorem set5_list (xs : List Value) {n : Nat} (hl : xs.length = n * 5) (a0 a1 a2 a3 a4 b0 b1 b2 b3 b4 : Value) :
    (((((xs ++ [a0, a1, a2, a3, a4]).set (n * 5) b0).set (n * 5 + 1) b1).set (n * 5 + 2) b2).set (n * 5 + 3) b3).set (n * 5 + 4) b4 = xs ++ [b0, b1, b2, b3, b4] := by
  have e : ∀ (l : List Value) (j : Nat) (u : Value), (xs ++ l).set (n * 5 + j) u = xs ++ l.set j u := fun l j u => by
    rw [List.set_append_right _ _ (by omega), hl]
    congr 2; omega
  have e0 := e [a0, a1, a2, a3, a4] 0 b0
  rw [Nat.add_zero] at e0
  rw [e0, e, e, e, e]
  rfl
theorem ShP.inn {N P : Nat} {v : Vw} {s : St} {w w7 w8 : World} {ini : List Sn.Op} {o o1 : Sn.Op} {vi : List Ov} {x : Ov} {x1b x1a kv : Value} {g cap R G cap2 : Nat} {bc : Array Value} {xs : List Value} {ob : Obj} {v0 v1 v2 v3 v4 v5 v6 : Value}
    (h : Sc N P v w s) (hov : s.over = false) (L : Lst N P v w s (ini ++ [o1]) o (vi ++ [⟨x1b, x1a, kv⟩]) x g cap) (hkl : o.elem.ks.length ≤ maxLen) (hn : ini.length ≠ 0)
    (hm : Mid (fun b => b = P ∨ b = g) N P g R (ini.length + 1) cap w w7 bc (cellsO (ini ++ [o1]) (vi ++ [⟨x1b, x1a, kv⟩])))
    (hbc : bc = scells { v with opn := .slice (some ⟨g, 0, none⟩) (ini.length + 1) cap, os := vi ++ [⟨x1b, x1a, kv⟩] } { s with os := ini ++ [o1] })
    (hxl : xs.length = o1.elem.ks.length * 5)
    (hx2 : ∀ i (h : i < o1.elem.ks.length), ∃ v0 v1 v2 v3 v4, xs[i * 5]? = some v0 ∧ xs[i * 5 + 1]? = some v1 ∧ xs[i * 5 + 2]? = some v2 ∧ xs[i * 5 + 3]? = some v3 ∧ xs[i * 5 + 4]? = some v4 ∧ InS (Imm N P v) w o1.elem.ks[i] (.agg #[v0, v1, v2, v3, v4]))
    (hki : ∀ b, kv.ownBlock = some b → b ≠ P ∧ b ≠ g ∧ b < w.heap.size)
    {a0 a1 a2 a3 a4 : Value} (hown : w8.ownsRow N 48 5 (.slice (some ⟨G, 0, none⟩) (o1.elem.ks.length + 1) cap2) (o1.elem.ks.length + 1) (xs ++ [a0, a1, a2, a3, a4]))
    (hgrow : (w7.alloc ob).drew.grownBy w8 kv.ownBlock) (hat : kv.ownBlock = some G ∨ G = w7.heap.size + 1)
    (hb8 : ∀ b, b < w7.heap.size → kv.ownBlock ≠ some b → w8.heap[b]? = w7.heap[b]?) :
    ShP N P v s w (.returned (.agg #[.int .i64 0, .string ⟨#[]⟩, .string ⟨#[]⟩, .slice none 0 0, .string ⟨#[]⟩, .slice none 0 0, .int .i64 0]))
      ((((((((((((((w8.setCell ⟨G, o1.elem.ks.length * 5, none⟩ (.string o.elem.sp)).setCell ⟨G, o1.elem.ks.length * 5 + 1, none⟩ (.string o.elem.nm)).setCell ⟨G, o1.elem.ks.length * 5 + 2, none⟩ x.a).setCell ⟨G, o1.elem.ks.length * 5 + 3, none⟩ (.string o.elem.tx)).setCell ⟨G, o1.elem.ks.length * 5 + 4, none⟩ x.k).setCell ⟨g, ini.length * 7 + 6, none⟩ (.slice (some ⟨G, 0, none⟩) (o1.elem.ks.length + 1) cap2)).setCell ⟨R, 0, none⟩ v0).setCell ⟨R, 1, none⟩ v1).setCell ⟨R, 2, none⟩ v2).setCell ⟨R, 3, none⟩ v3).setCell ⟨R, 4, none⟩ v4).setCell ⟨R, 5, none⟩ v5).setCell ⟨R, 6, none⟩ v6)) := by
  obtain ⟨q1, q2, q3, q4⟩ := hm.ne
  have hlen : vi.length = ini.length := by have := L.len; simpa using this
  have hgl := hm.glt
  have hPl := heap_lt hm.box
  have hRl := heap_lt hm.r
  have hkP : kv.ownBlock ≠ some P := fun e => (hki P e).1 rfl
  have hkg : kv.ownBlock ≠ some g := fun e => (hki g e).2.1 rfl
  have hkR : kv.ownBlock ≠ some R := fun e => by have := (hki R e).2.2; omega
  have hGne : ∀ b, b < w7.heap.size → kv.ownBlock ≠ some b → b ≠ G := fun b hb hk e => by
    rcases hat with e2 | e2
    · exact hk (by rw [e2, e])
    · omega
  have hGg := hGne g hgl hkg
  have hGP := hGne P hPl hkP
  have hGR := hGne R hRl hkR
  have hX : ∀ b, kv.ownBlock = some b → b < w.heap.size → (b = P ∨ b = g ∨ kv.ownBlock = some b) := fun b e _ => .inr (.inr e)
  have hGX : G < w.heap.size → (G = P ∨ G = g ∨ kv.ownBlock = some G) := fun hlt => by
    rcases hat with e2 | e2
    · exact .inr (.inr e2)
    · have := hm.ow.size; omega
  have o7 : Ow (fun b => b = P ∨ b = g ∨ kv.ownBlock = some b) w w7 := hm.ow.weak fun b e => e.elim .inl fun e => .inr (.inl e)
  have o8 : Ow (fun b => b = P ∨ b = g ∨ kv.ownBlock = some b) w w8 := ((o7.alloc ob).call (bel_drew (w7.alloc ob) 1)).grown hgrow hX
  have o9 := ((((((o8.set (a := ⟨G, o1.elem.ks.length * 5, none⟩) hGX (.string o.elem.sp)).set (a := ⟨G, o1.elem.ks.length * 5 + 1, none⟩) hGX (.string o.elem.nm)).set (a := ⟨G, o1.elem.ks.length * 5 + 2, none⟩) hGX x.a).set (a := ⟨G, o1.elem.ks.length * 5 + 3, none⟩) hGX (.string o.elem.tx)).set (a := ⟨G, o1.elem.ks.length * 5 + 4, none⟩) hGX x.k).set (a := ⟨g, ini.length * 7 + 6, none⟩) (fun _ => .inr (.inl rfl)) (.slice (some ⟨G, 0, none⟩) (o1.elem.ks.length + 1) cap2))
  have oF := o9.set7 q4 v0 v1 v2 v3 v4 v5 v6
  have n5 := (hown.stored (o1.elem.ks.length * 5) (.string o.elem.sp)).1
  have n5 := (n5.stored (o1.elem.ks.length * 5 + 1) (.string o.elem.nm)).1
  have n5 := (n5.stored (o1.elem.ks.length * 5 + 2) x.a).1
  have n5 := (n5.stored (o1.elem.ks.length * 5 + 3) (.string o.elem.tx)).1
  have n5 := (n5.stored (o1.elem.ks.length * 5 + 4) x.k).1
  rw [set5_list xs hxl] at n5
  have hrg := own_keep (w' := w8) hm.row (fun b e => by cases e; exact hb8 g hgl hkg)
  obtain ⟨W9, hW9⟩ : ∃ W9, ((((w8.setCell ⟨G, o1.elem.ks.length * 5, none⟩ (.string o.elem.sp)).setCell ⟨G, o1.elem.ks.length * 5 + 1, none⟩ (.string o.elem.nm)).setCell ⟨G, o1.elem.ks.length * 5 + 2, none⟩ x.a).setCell ⟨G, o1.elem.ks.length * 5 + 3, none⟩ (.string o.elem.tx)).setCell ⟨G, o1.elem.ks.length * 5 + 4, none⟩ x.k = W9 := ⟨_, rfl⟩
  have h98 : ∀ b, b ≠ G → W9.heap[b]? = w8.heap[b]? := fun b hb => by rw [← hW9]; exact heap5 hb _ _ _ _ _
  rw [hW9] at n5 oF ⊢
  clear o9
  have hrg9 := own_keep (w' := W9) hrg (fun b e => by cases e; exact h98 g hGg)
  have hrgX := (hrg9.stored (ini.length * 7 + 6) (.slice (some ⟨G, 0, none⟩) (o1.elem.ks.length + 1) cap2)).1
  have e1 : (cellsO (ini ++ [o1]) (vi ++ [⟨x1b, x1a, kv⟩])).set (ini.length * 7 + 6) (.slice (some ⟨G, 0, none⟩) (o1.elem.ks.length + 1) cap2) = cellsO ini vi ++ cells1 ⟨o1.decl, o1.name, El.addKid o1.elem o.elem⟩ ⟨x1b, x1a, .slice (some ⟨G, 0, none⟩) (o1.elem.ks.length + 1) cap2⟩ := by
    have hl := cellsO_len hlen
    have e2 : cellsO [o1] [⟨x1b, x1a, kv⟩] = cells1 o1 ⟨x1b, x1a, kv⟩ := by simp [cellsO]
    rw [cellsO_append hlen, e2, List.set_append_right _ _ (by omega), hl, show ini.length * 7 + 6 - ini.length * 7 = 6 by omega]
    cases o1 with
    | mk d n e => cases e with
      | mk sp nm a tx ks => rfl
  rw [e1] at hrgX
  have heF : ∀ b, b ≠ R → b ≠ g → (((((((W9.setCell ⟨g, ini.length * 7 + 6, none⟩ (.slice (some ⟨G, 0, none⟩) (o1.elem.ks.length + 1) cap2)).setCell ⟨R, 0, none⟩ v0).setCell ⟨R, 1, none⟩ v1).setCell ⟨R, 2, none⟩ v2).setCell ⟨R, 3, none⟩ v3).setCell ⟨R, 4, none⟩ v4).setCell ⟨R, 5, none⟩ v5 |>.setCell ⟨R, 6, none⟩ v6).heap[b]? = W9.heap[b]? := fun b h1 h2 => (heap7 h1 _ _ _ _ _ _ _).trans (setCell_other h2)
  have hsh := shut_eq2 (ini := ini) (o1 := o1) (o := o) L.os hn
  obtain ⟨vf, r1, r2, r3⟩ := h.shutTo L hkl oF
    (by rw [heF P (Ne.symm q2) q1, h98 P hGP, hb8 P hPl hkP, hm.box, hbc])
    (own_keep hrgX (fun b e => by cases e; exact heap7 (Ne.symm q3) _ _ _ _ _ _ _))
    (fun b e => by
      have e' : G = b := by cases e; rfl
      subst e'
      rcases hat with e2 | e2
      · exact .inl e2
      · exact .inr (by have := hm.ow.size; omega))
    (fun W' va vb hot hsz p1 hI hf hF => by
      obtain ⟨d, a, k, ⟨⟨z1, z2, z3, z4⟩, z5⟩, f⟩ := p1
      refine ⟨d.fr hf, ?_, ?_, ?_, f⟩
      · cases o1 with
        | mk d n e => cases e with
          | mk sp nm a' tx ks => exact a.fr hf
      · have hks : (El.addKid o1.elem o.elem).ks = o1.elem.ks ++ [o.elem] := by
          cases o1 with
          | mk d n e => cases e with
            | mk sp nm a' tx ks => rfl
        show KidsRow N _ _ _ (El.addKid o1.elem o.elem).ks
        rw [hks]
        refine ⟨xs ++ [.string o.elem.sp, .string o.elem.nm, x.a, .string o.elem.tx, x.k], ?_, fun i hi => ?_⟩
        · rw [List.length_append, List.length_singleton]
          exact own_keep n5 (fun b e => by cases e; exact heF G (Ne.symm hGR) (Ne.symm hGg))
        · simp only [List.length_append, List.length_singleton] at hi
          by_cases hl : i < o1.elem.ks.length
          · obtain ⟨u0, u1, u2, u3, u4, b0, b1, b2, b3, b4, hin⟩ := hx2 i hl
            refine ⟨u0, u1, u2, u3, u4, ?_, ?_, ?_, ?_, ?_, ?_⟩
            · rw [List.getElem?_append_left (by omega)]; exact b0
            · rw [List.getElem?_append_left (by omega)]; exact b1
            · rw [List.getElem?_append_left (by omega)]; exact b2
            · rw [List.getElem?_append_left (by omega)]; exact b3
            · rw [List.getElem?_append_left (by omega)]; exact b4
            · rw [List.getElem_append_left hl]; exact hin.fr hF
          · have hil : i = o1.elem.ks.length := by omega
            subst hil
            refine ⟨.string o.elem.sp, .string o.elem.nm, x.a, .string o.elem.tx, x.k, ?_, ?_, ?_, ?_, ?_, ?_⟩
            · rw [List.getElem?_append_right (by omega), hxl, Nat.sub_self]; rfl
            · rw [List.getElem?_append_right (by omega), hxl, Nat.add_sub_cancel_left]; rfl
            · rw [List.getElem?_append_right (by omega), hxl, Nat.add_sub_cancel_left]; rfl
            · rw [List.getElem?_append_right (by omega), hxl, Nat.add_sub_cancel_left]; rfl
            · rw [List.getElem?_append_right (by omega), hxl, Nat.add_sub_cancel_left]; rfl
            · rw [List.getElem_append_right (Nat.le_refl _)]
              simp only [Nat.sub_self, List.getElem_cons_zero]
              exact hI.fr hf
      · cases o1 with
        | mk d n e => cases e with
          | mk sp nm a' tx ks => exact ⟨⟨z1, z2, z3, z4⟩, z5⟩)
  refine ⟨vf, _, rfl, ?_, ?_, r2⟩
  · rw [hsh]; exact EvS.zero _ _ 0 0
  · rw [hsh]; exact ⟨fun _ => r1, fun hc => by rw [hov] at hc; cases hc⟩

end Go.Proofs.YtolnpfcncmcacaaGreatDoor
