/- A writer in memory; contracts: put, number, text, value, numberValue of package legacy's writer. Conditions: those of each theorem's head. -/
import Derived.Test.YtiodjaeonoheiaaGreatDoorWa
import Derived.Test.YtiodjaeonoheiaaGreatDoorVf
import Derived.Test.YtiodjaeonoheiaaGreatDoorTe
import Derived.Deep.AppendLies
import Derived.Deep.DeepCutAuto
import Derived.Lib.AppendStr
set_option maxRecDepth 100000
set_option maxHeartbeats 4000000
namespace Go.Proofs.YtiodjaeonoheiaaGreatDoor.T
open Go.RowKit Go.Lib
theorem nOne (n : Nt) (ai az : Option Addr) (ci cz : Nat) (w : World) : Hid ((w.alloc (.cells #[.int .i64 n.k, .string n.n, .string n.x, .string n.d, .int .i64 n.c, .int .i64 n.s, .int .i64 n.e, .int .i64 n.t, .bool n.o, .slice ai n.l.length ci, .slice az n.z.length cz] 25)).heap[w.heap.size]? = some (.cells #[.int .i64 n.k, .string n.n, .string n.x, .string n.d, .int .i64 n.c, .int .i64 n.s, .int .i64 n.e, .int .i64 n.t, .bool n.o, .slice ai n.l.length ci, .slice az n.z.length cz] 25 (0, 0))) ∧ Hid (Below w.heap.size w (w.alloc (.cells #[.int .i64 n.k, .string n.n, .string n.x, .string n.d, .int .i64 n.c, .int .i64 n.s, .int .i64 n.e, .int .i64 n.t, .bool n.o, .slice ai n.l.length ci, .slice az n.z.length cz] 25))) := bxOne w _ _
theorem nTwo (k : Int) (n : Nt) (ai az : Option Addr) (ci cz : Nat) (w : World) : Hid (Below w.heap.size w ((w.alloc (.cells #[.int .i64 k, .string n.n, .string n.x, .string n.d, .int .i64 n.c, .int .i64 n.s, .int .i64 n.e, .int .i64 n.t, .bool n.o, .slice ai n.l.length ci, .slice az n.z.length cz] 25)).alloc (.cells #[.int .i64 0, .string n.n, .string n.x, .string n.d, .int .i64 n.c, .int .i64 n.s, .int .i64 n.e, .int .i64 n.t, .bool n.o, .slice ai n.l.length ci, .slice az n.z.length cz] 25))) ∧ Hid (((w.alloc (.cells #[.int .i64 k, .string n.n, .string n.x, .string n.d, .int .i64 n.c, .int .i64 n.s, .int .i64 n.e, .int .i64 n.t, .bool n.o, .slice ai n.l.length ci, .slice az n.z.length cz] 25)).alloc (.cells #[.int .i64 0, .string n.n, .string n.x, .string n.d, .int .i64 n.c, .int .i64 n.s, .int .i64 n.e, .int .i64 n.t, .bool n.o, .slice ai n.l.length ci, .slice az n.z.length cz] 25)).heap[w.heap.size]? = some (.cells #[.int .i64 k, .string n.n, .string n.x, .string n.d, .int .i64 n.c, .int .i64 n.s, .int .i64 n.e, .int .i64 n.t, .bool n.o, .slice ai n.l.length ci, .slice az n.z.length cz] 25 (0, 0))) ∧ Hid (((w.alloc (.cells #[.int .i64 k, .string n.n, .string n.x, .string n.d, .int .i64 n.c, .int .i64 n.s, .int .i64 n.e, .int .i64 n.t, .bool n.o, .slice ai n.l.length ci, .slice az n.z.length cz] 25)).alloc (.cells #[.int .i64 0, .string n.n, .string n.x, .string n.d, .int .i64 n.c, .int .i64 n.s, .int .i64 n.e, .int .i64 n.t, .bool n.o, .slice ai n.l.length ci, .slice az n.z.length cz] 25)).heap[w.heap.size + 1]? = some (.cells #[.int .i64 0, .string n.n, .string n.x, .string n.d, .int .i64 n.c, .int .i64 n.s, .int .i64 n.e, .int .i64 n.t, .bool n.o, .slice ai n.l.length ci, .slice az n.z.length cz] 25 (0, 0))) := bxTwo w _ _ _ _
theorem setCell_other {W : World} {P i b : Nat} {u : Value} (h : b ≠ P) : (W.setCell ⟨P, i, none⟩ u).heap[b]? = W.heap[b]? := Below.heap_setCell _ _ _ _ h
theorem setI {W : World} {P : Nat} {cs : Array Value} {t : TypeId} (h : W.heap[P]? = some (.cells cs t (0, 0))) (i : Nat) (u : Value) : (W.setCell ⟨P, i, none⟩ u).heap[P]? = some (.cells (cs.setIfInBounds i u) t (0, 0)) := by
  simp [World.setCell, Array.getElem?_modify, h]
structure Ch (N R : Nat) (w w' : World) : Prop where
  os : w'.os = w.os
  tape : w'.tape = w.tape
  output : w'.output = w.output
  size : w.heap.size ≤ w'.heap.size
  block : ∀ b, b < w.heap.size → w'.heap[b]? = w.heap[b]? ∨ (N ≤ b ∧ (b = R ∨ ∃ cur, w.heap[b]? = some (.cells cur 5 (0, 0))))
theorem Ch.refl (N R : Nat) (w : World) : Ch N R w w := ⟨rfl, rfl, rfl, Nat.le_refl _, fun _ _ => .inl rfl⟩
theorem Ch.trans {N R : Nat} {a b c : World} (h : Ch N R a b) (k : Ch N R b c) : Ch N R a c :=
  ⟨k.os.trans h.os, k.tape.trans h.tape, k.output.trans h.output, Nat.le_trans h.size k.size, fun i hi => by
    rcases h.block i hi with h1 | h1
    · rcases k.block i (Nat.lt_of_lt_of_le hi h.size) with k1 | ⟨k0, k1⟩
      · exact .inl (k1.trans h1)
      · exact .inr ⟨k0, by rw [h1] at k1; exact k1⟩
    · exact .inr h1⟩
theorem Ch.below {N R : Nat} {a w w' : World} (h : Ch N R a w) (hb : Below w.heap.size w w') : Ch N R a w' :=
  h.trans ⟨hb.os, hb.tape, hb.output, hb.size, fun b hb2 => .inl (hb.block b hb2)⟩
theorem Ch.alloc {N R : Nat} {a w : World} (h : Ch N R a w) (o : Obj) : Ch N R a (w.alloc o) := h.below ((Below.refl _ w).alloc (Nat.le_refl _) o)
theorem Ch.drew {N R : Nat} {a w : World} (h : Ch N R a w) : Ch N R a w.drew := ⟨h.os, h.tape, h.output, h.size, h.block⟩
theorem Ch.set {N R : Nat} {a w : World} (h : Ch N R a w) (hN : N ≤ R) (i : Nat) (u : Value) : Ch N R a (w.setCell ⟨R, i, none⟩ u) := by
  have k := (Below.refl R w).setCell (p := ⟨R, i, none⟩) (Nat.le_refl _) u
  refine h.trans ⟨k.os, k.tape, k.output, k.size, fun b _ => ?_⟩
  by_cases e : b = R
  · exact .inr ⟨by omega, .inl e⟩
  · exact .inl (setCell_other e)
theorem Ch.grown {N R : Nat} {a w w' : World} {row : Option Nat} (h : Ch N R a w) (hg : w.grownBy w' row) (hr : ∀ b, row = some b → N ≤ b ∧ ∃ cur, w.heap[b]? = some (.cells cur 5 (0, 0))) : Ch N R a w' := by
  refine h.trans ⟨hg.os, hg.tape, hg.output, hg.size, fun b hb => ?_⟩
  by_cases e : row = some b
  · obtain ⟨h1, h2⟩ := hr b e
    exact .inr ⟨h1, .inr h2⟩
  · exact .inl (hg.block b hb fun k => e k.symm)
theorem Ch.toBelow {N R : Nat} {w w' : World} (h : Ch N R w w') (hN : N ≤ w.heap.size) : Below N w w' :=
  ⟨h.os, h.tape, h.output, h.size, fun b hb => by
    rcases h.block b (Nat.lt_of_lt_of_le hb hN) with h1 | ⟨h1, _⟩
    · exact h1
    · omega⟩
structure Wr (N P : Nat) (T : TypeId) (r : List Value) (w : World) (l : List UInt8) : Prop where
  le : N ≤ P
  own : ∃ v, w.heap[P]? = some (.cells (v :: r).toArray T (0, 0)) ∧ w.ownsRow N 5 1 v l.length (byteV l)
section
variable {N P : Nat} {T : TypeId} {r : List Value} {w w' : World} {l : List UInt8}
theorem Wr.lt (h : Wr N P T r w l) : P < w.heap.size := by
  obtain ⟨v, h1, _⟩ := h.own
  exact heap_lt h1
theorem Wr.below (h : Wr N P T r w l) (hb : Below w.heap.size w w') : Wr N P T r w' l := by
  obtain ⟨v, h1, h2⟩ := h.own
  exact ⟨h.le, v, (hb.block _ (heap_lt h1)).trans h1, own_below h2 hb⟩
theorem Wr.drew (h : Wr N P T r w l) : Wr N P T r w.drew l := h.below (Below.refl _ _).drew
theorem Ch.keep (h : Ch N P w w') {b : Nat} {cs : Array Value} {t : TypeId} {f : Nat × Nat} (hb : w.heap[b]? = some (.cells cs t f)) (ht : t ≠ 5) (hP : b ≠ P) : w'.heap[b]? = some (.cells cs t f) := by
  rcases h.block b (heap_lt hb) with h1 | ⟨_, h1 | ⟨c, h1⟩⟩
  · exact h1.trans hb
  · exact absurd h1 hP
  · rw [h1] at hb
    injection hb with hb
    injection hb with _ hb _
    exact absurd hb.symm ht
def WrP (N P : Nat) (T : TypeId) (r : List Value) (w : World) (l : List UInt8) (e : Ending) (w' : World) : Prop := e = .returned (.tuple #[]) ∧ Ch N P w w' ∧ Wr N P T r w' l
theorem byteV_str (s : ByteArray) : strCells s = byteV s.data.toList := by simp [strCells, byteV]
theorem byteV_app (a b : List UInt8) : byteV a ++ byteV b = byteV (a ++ b) := by simp [byteV]
theorem wput_any (h : Wr N P T r w l) (hT : T ≠ 5) (s : ByteArray) (hs : l.length + s.size ≤ 140737488355328) (hN : N ≤ w.heap.size) :
    Calls Tryz.prog 72 #[.pointer (some ⟨P, 0, none⟩), .string s] w (WrP N P T r w (l ++ s.data.toList)) := by
  have HP : Hid (∀ W, Ch N P w W → Wr N P T r W (l ++ s.data.toList) → WrP N P T r w (l ++ s.data.toList) (.returned (.tuple #[])) W) := fun W a b => ⟨rfl, a, b⟩
  generalize hq : WrP N P T r w (l ++ s.data.toList) = POST at HP ⊢
  clear hq
  obtain ⟨hle, v, h1, h2⟩ := h
  have HC := Lib.hid (Ch.refl N P w)
  have hno : ∀ b, v.ownBlock = some b → b ≠ P := fun b hb k => by
    obtain ⟨_, cur, hc⟩ := own_heap h2 hb
    rw [k, h1] at hc
    injection hc with hc
    injection hc with _ hc _
    exact hT hc
  have HNO := Lib.hid hno
  have HLE := Lib.hid hle
  have HR := Lib.hid h2
  have HX := Lib.hid h1
  have HT := Lib.hid hT
  have HZ : Hid ((l ++ s.data.toList).length = l.length + s.size) := by
    show _ = _
    rw [List.length_append, By.len_size]
  generalize hk : l.length = k at hs HR HZ
  clear hk
  have c0 : w.cell? ⟨P, 0, none⟩ = some v := (Lib.cell_of_heap h1 0).trans (by simp)
  obtain ⟨i0, hi0, hz0, hz1, hz2⟩ := info_parts infoU8
  clear h1 h2 hno hle hT
  go_enter Tryz.func72, Tryz.ntmps72
  go_wp2_with (at_builtin; refine wpList_append_own_string _ rfl _ _ 77 9 (by rfl) N 5 i0 Tryz.underlying77 Tryz.underlying9 hi0 hz0 hz1 hz2 _ k (byteV l) (by rfl) HR.out s (by rfl) (by unfold maxLen; omega) hs hN ?_; intro v5 w5 hown hgrow h9; clear h9; have hbx := (hgrow.block P (heap_lt HX.out) (fun q => HNO.out P q.symm rfl)).trans HX.out; have hgr := HC.out.grown hgrow (fun b9 e9 => own_heap HR.out e9); have HGR := Lib.hid hgr; have HOW := Lib.hid hown; clear hgr hgrow HC; have HBX := Lib.hid hbx; have x0 : w5.cell? ⟨P, 0, none⟩ = some v := (Lib.cell_of_heap hbx 0).trans (by simp); have x1 : w5.frozen? ⟨P, 0, none⟩ = false := (by simp [World.frozen?, hbx]); clear hbx hown; obtain ⟨a5, k5, c5, rfl⟩ : ∃ a5 k5 c5, v5 = .slice a5 k5 c5 := (by rcases HOW.out.2 with ⟨e, _⟩ | ⟨g, cap, cur, e, _⟩ <;> exact ⟨_, _, _, e⟩))
  refine bodyPost_end (results_none rfl _ _ _) rfl ?_
  refine HP.out _ (HGR.out.set HLE.out 0 _) ⟨HLE.out, .slice a5 k5 c5, (setI HBX.out 0 (.slice a5 k5 c5)).trans (by simp), ?_⟩
  rw [HZ.out]
  refine own_keep (by rw [← byteV_app, ← byteV_str]; exact HOW.out) fun b hb => setCell_other fun e => ?_
  obtain ⟨_, cur, hc⟩ := own_heap HOW.out hb
  rw [e, HBX.out] at hc
  injection hc with hc
  injection hc with _ hc _
  exact HT.out hc
theorem intS_len (n width : Int) : (intS n width).size ≤ 4 := Q.intS_len n width
theorem textS_len (s : ByteArray) (width : Int) : (textS s width).size ≤ s.size + 4 := by
  unfold textS
  split
  · rename_i h
    have hw : wid width = true := by
      unfold intOk at h
      simp only [Bool.and_eq_true] at h
      exact h.1.1
    rw [mk_size, List.length_append, dig_length, By.len_size]
    rcases wid_cases hw with rfl | rfl | rfl
    · show 1 + s.size ≤ _; omega
    · show 2 + s.size ≤ _; omega
    · show 4 + s.size ≤ _; omega
  · exact Nat.zero_le _
theorem putS_len (t : Tv) : (putS [t]).size ≤ t.v.size + 4 := by
  unfold putS
  split
  · rename_i h
    have ho : t.ok = true := by
      unfold putE at h
      rw [if_neg (by simp)] at h
      split at h
      · rename_i h2; simpa using h2
      · cases h
    have := Tv.ok_size ho
    rw [mk_size]
    simp only [putL, List.flatMap_cons, List.flatMap_nil, List.append_nil, Tv.put, List.length_append, dig_length, By.len_size]
    omega
  · exact Nat.zero_le _
theorem tvS_one (w : World) (k : Int) (s : ByteArray) (b : Nat) (t : TypeId) (h : w.heap[b]? = some (.cells #[.int .i64 k, .string s] t (0, 0))) : TvS w (some ⟨b, 0, none⟩) [⟨k, s⟩] := fun i hi => by
  obtain rfl : i = 0 := by simpa using hi
  refine ⟨b, 0, rfl, ?_, ?_⟩ <;> (rw [Lib.cell_of_heap h]; rfl)
theorem tput_one (k : Int) (s : ByteArray) (hs : s.size ≤ 140737488351232) (b : Nat) (t : TypeId) (c : Nat) (W : World) (h : W.heap[b]? = some (.cells #[.int .i64 k, .string s] t (0, 0))) :
    Calls Tryz.prog 104 #[.slice (some ⟨b, 0, none⟩) 1 c] W (Gives (.tuple #[.string (putS [⟨k, s⟩]), .int .i64 (putE [⟨k, s⟩])]) W) :=
  put_any [⟨k, s⟩] _ c W (tvS_one W k s b t h) (by simp) (fun t ht => by
    rw [List.mem_singleton] at ht
    subst ht
    exact hs)
theorem wnumber_any (h : Wr N P T r w l) (hT : T ≠ 5) (n width : Int) (hs : l.length ≤ 140737488000000) (hN : N ≤ w.heap.size) :
    Calls Tryz.prog 78 #[.pointer (some ⟨P, 0, none⟩), .int .i64 n, .int .i64 width] w (WrP N P T r w (l ++ numL' n width)) := by
  have H := Lib.hid h
  have HT := Lib.hid hT
  have HS : Hid (l.length + (intS n width).size ≤ 140737488355328) := by have := intS_len n width; show _ ≤ _; omega
  have CI := Lib.hid (fun W => int_any n width W)
  unfold numL'
  generalize intS n width = A at CI HS ⊢
  generalize intE n width = E at CI
  clear h hT hs
  go_enter Tryz.func78, Tryz.ntmps78
  go_wp2_with fail
  refine (CI.out _).mono ?_
  rintro e w1 ⟨rfl, hb⟩
  have HB := Lib.hid hb
  clear hb CI
  go_wp2_with fail
  refine (wput_any (H.out.below HB.out) HT.out A HS.out (Nat.le_trans hN HB.out.size)).mono ?_
  rintro e w2 ⟨rfl, hc, hw⟩
  have HC := Lib.hid (((Ch.refl N P w).below HB.out).trans hc)
  have HW := Lib.hid hw
  clear hc hw
  go_wp2_with fail
  exact bodyPost_end (results_none rfl _ _ _) rfl ⟨rfl, HC.out, HW.out⟩
theorem wtext_any (h : Wr N P T r w l) (hT : T ≠ 5) (s : ByteArray) (width : Int) (hs : l.length + s.size ≤ 140737488000000) (hN : N ≤ w.heap.size) :
    Calls Tryz.prog 75 #[.pointer (some ⟨P, 0, none⟩), .string s, .int .i64 width] w (WrP N P T r w (l ++ txtL s width)) := by
  have H := Lib.hid h
  have HT := Lib.hid hT
  have HS : Hid (l.length + (textS s width).size ≤ 140737488355328) := by have := textS_len s width; show _ ≤ _; omega
  have CI := Lib.hid (fun W => text_any s width W (by omega))
  unfold txtL
  generalize textS s width = A at CI HS ⊢
  generalize intE s.size width = E at CI
  clear h hT hs
  go_enter Tryz.func75, Tryz.ntmps75
  go_wp2_with fail
  refine (CI.out _).mono ?_
  rintro e w1 ⟨rfl, hb⟩
  have HB := Lib.hid hb
  clear hb CI
  go_wp2_with fail
  refine (wput_any (H.out.below HB.out) HT.out A HS.out (Nat.le_trans hN HB.out.size)).mono ?_
  rintro e w2 ⟨rfl, hc, hw⟩
  have HC := Lib.hid (((Ch.refl N P w).below HB.out).trans hc)
  have HW := Lib.hid hw
  clear hc hw
  go_wp2_with fail
  exact bodyPost_end (results_none rfl _ _ _) rfl ⟨rfl, HC.out, HW.out⟩
theorem wvalue_any (h : Wr N P T r w l) (hT : T ≠ 5) (k : Int) (s : ByteArray) (hs : l.length + s.size ≤ 140737488000000) (hN : N ≤ w.heap.size) :
    Calls Tryz.prog 73 #[.pointer (some ⟨P, 0, none⟩), .int .i64 k, .string s] w (WrP N P T r w (l ++ valL k s)) := by
  have H := Lib.hid h
  have HT := Lib.hid hT
  have HS : Hid (l.length + (putS [⟨k, s⟩]).size ≤ 140737488355328) := by have := putS_len ⟨k, s⟩; show _ ≤ _; simp only at this; omega
  obtain ⟨HX, HB0⟩ := bxOne w #[.int .i64 k, .string s] 128
  have CI := Lib.hid (fun c W hh => tput_one k s (by omega) w.heap.size 128 c W hh)
  unfold valL
  generalize putS [⟨k, s⟩] = A at CI HS ⊢
  generalize putE [⟨k, s⟩] = E at CI
  clear h hT hs
  go_enter Tryz.func73, Tryz.ntmps73
  go_wp2_with fail
  refine (CI.out _ _ HX.out).mono ?_
  rintro e w1 ⟨rfl, hb⟩
  have HB := trB HB0 hb
  clear hb CI
  go_wp2_with fail
  refine (wput_any (H.out.below HB.out) HT.out A HS.out (Nat.le_trans hN HB.out.size)).mono ?_
  rintro e w2 ⟨rfl, hc, hw⟩
  have HC := Lib.hid (((Ch.refl N P w).below HB.out).trans hc)
  have HW := Lib.hid hw
  clear hc hw
  go_wp2_with fail
  exact bodyPost_end (results_none rfl _ _ _) rfl ⟨rfl, HC.out, HW.out⟩
theorem wnumV_any (h : Wr N P T r w l) (hT : T ≠ 5) (k n width : Int) (hs : l.length ≤ 140737480000000) (hN : N ≤ w.heap.size) :
    Calls Tryz.prog 77 #[.pointer (some ⟨P, 0, none⟩), .int .i64 k, .int .i64 n, .int .i64 width] w (WrP N P T r w (l ++ valL k (intS n width))) := by
  have H := Lib.hid h
  have HT := Lib.hid hT
  have HS : Hid (l.length + (intS n width).size ≤ 140737488000000) := by have := intS_len n width; show _ ≤ _; omega
  have CI := Lib.hid (fun W => int_any n width W)
  generalize intS n width = A at CI HS ⊢
  generalize intE n width = E at CI
  clear h hT hs
  go_enter Tryz.func77, Tryz.ntmps77
  go_wp2_with fail
  refine (CI.out _).mono ?_
  rintro e w1 ⟨rfl, hb⟩
  have HB := Lib.hid hb
  clear hb CI
  go_wp2_with fail
  refine (wvalue_any (H.out.below HB.out) HT.out k A HS.out (Nat.le_trans hN HB.out.size)).mono ?_
  rintro e w2 ⟨rfl, hc, hw⟩
  have HC := Lib.hid (((Ch.refl N P w).below HB.out).trans hc)
  have HW := Lib.hid hw
  clear hc hw
  go_wp2_with fail
  exact bodyPost_end (results_none rfl _ _ _) rfl ⟨rfl, HC.out, HW.out⟩
end
end Go.Proofs.YtiodjaeonoheiaaGreatDoor.T
