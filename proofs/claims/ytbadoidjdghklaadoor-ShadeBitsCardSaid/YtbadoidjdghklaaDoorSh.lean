/- Contracts of element, entityOf and of the program's FromHtml. Conditions: the text has at most 1048576 bytes; the table of entities holds what its text lays. -/
import Derived.Test.YtbadoidjdghklaaDoorSf
import Derived.Test.YtbadoidjdghklaaDoorFold
namespace Go.Proofs.YtbadoidjdghklaaDoor
open Go.RowKit Go.Lib Go.Shelf Sg Sh

theorem mk_ne {l : List UInt8} {m : List UInt8} (h : ¬ l = m) : ¬ (mk l).toList = m ∧ ((mk l).toList == m) = false := by
  rw [ByteArray.toList_eq, mk_list]
  exact ⟨h, beq_eq_false_iff_ne.2 h⟩
theorem brk_yes {l : List UInt8} (h : foldL l = [60, 98, 114, 62] ∨ foldL l = [60, 98, 114, 47, 62]) : brk l = [10] := by
  unfold brk isBr
  rcases h with h | h
  · rw [h]; rfl
  · rw [h]; rfl
theorem brk_no {l : List UInt8} (h : ¬ foldL l = [60, 98, 114, 62]) (g : ¬ foldL l = [60, 98, 114, 47, 62]) : brk l = [] := by
  unfold brk isBr
  rw [decide_eq_false h, decide_eq_false g]; rfl
theorem brk_len (l : List UInt8) : (brk l).length ≤ 1 := by
  unfold brk; split
  · exact Nat.le_refl _
  · exact Nat.zero_le _
set_option maxHeartbeats 1000000 in
theorem element_any (s : ByteArray) (w : World) (hs : s.size ≤ 1048576) {x y : List UInt8} (hx : cutAt 62 s.data.toList = some (x, y)) :
    Calls Tryd.prog 32 #[.string s] w fun e w' => e = .returned (.tuple #[.int .i64 ((x.length + 1 : Nat) : Int), .string (mk (brk (x ++ [62])))]) ∧ Below w.heap.size w w' := by
  have CI := Lib.hid (Any.strings_IndexByte Tryd.lays137 s 62 w)
  have HI : Hid (Lib.indexByte s.data.toList ((62 : Int).toNat.toUInt8) = (x.length : Int)) := indexByte_at hx
  rw [HI.out] at CI
  obtain ⟨h1, _⟩ := cutAt_some hx
  have hlen : x.length + 1 ≤ s.size := by rw [Lib.size_eq, h1]; simp
  have HT : (s.extract 0 (x.length + 1)).data.toList = x ++ [62] := by
    rw [By.extract_cut, List.drop_zero, h1, show x ++ 62 :: y = (x ++ [62]) ++ y by simp, List.take_left' (by simp)]
  have CF := Lib.hid (fun W => fold_any (s.extract 0 (x.length + 1)) W (by rw [ByteArray.size_extract]; omega))
  rw [HT] at CF
  clear HT h1 HI hx
  have ee : ((x.length : Int) + 1).toNat = x.length + 1 := by omega
  generalize x.length = k at CI CF hlen ee ⊢
  by_cases h0 : foldL (x ++ [62]) = [60, 98, 114, 62]
  · rw [brk_yes (.inl h0)]
    rw [h0] at CF
    go_enter Tryd.func32, Tryd.ntmps32
    go_wp2_with fail
    refine CI.out.mono ?_
    rintro r w1 ⟨rfl, hw⟩
    subst hw
    go_wp2_with fail
    refine (CF.out _).mono ?_
    rintro r w2 ⟨rfl, hb⟩
    have HB := Lib.hid hb
    clear hb
    go_wp2_with fail
    go_ret2
    exact ⟨by simp; rfl, HB.out⟩
  by_cases h1 : foldL (x ++ [62]) = [60, 98, 114, 47, 62]
  · rw [brk_yes (.inr h1)]
    rw [h1] at CF
    go_enter Tryd.func32, Tryd.ntmps32
    go_wp2_with fail
    refine CI.out.mono ?_
    rintro r w1 ⟨rfl, hw⟩
    subst hw
    go_wp2_with fail
    refine (CF.out _).mono ?_
    rintro r w2 ⟨rfl, hb⟩
    have HB := Lib.hid hb
    clear hb
    go_wp2_with fail
    go_ret2
    exact ⟨by simp; rfl, HB.out⟩
  rw [brk_no h0 h1]
  obtain ⟨m0, k0⟩ := mk_ne h0
  obtain ⟨m1, k1⟩ := mk_ne h1
  have CF2 : Hid (∀ W, Calls Tryd.prog 42 #[.string (s.extract 0 (k + 1))] W fun e w' => e = .returned (.string (mk (foldL (x ++ [62])))) ∧ Below W.heap.size W w') := CF.out
  clear h0 h1 CF
  generalize mk (foldL (x ++ [62])) = F at CF2 m0 k0 m1 k1
  go_enter Tryd.func32, Tryd.ntmps32
  go_wp2_with fail
  refine CI.out.mono ?_
  rintro r w1 ⟨rfl, hw⟩
  subst hw
  go_wp2_with fail
  refine (CF2.out _).mono ?_
  rintro r w2 ⟨rfl, hb⟩
  have HB := Lib.hid hb
  clear hb
  go_wp2_with fail
  go_ret2
  exact ⟨by simp; rfl, HB.out⟩

/-- The table of entities is as its text lays it. -/
def entCells : List Value := [.string ⟨#[38, 97, 109, 112, 59]⟩, .string ⟨#[38]⟩, .string ⟨#[38, 108, 116, 59]⟩, .string ⟨#[60]⟩, .string ⟨#[38, 103, 116, 59]⟩, .string ⟨#[62]⟩, .string ⟨#[38, 113, 117, 111, 116, 59]⟩, .string ⟨#[34]⟩, .string ⟨#[38, 110, 98, 115, 112, 59]⟩, .string ⟨#[32]⟩]
def Ge (w : World) : Prop := ∀ (i : Nat) (v : Value), entCells[i]? = some v → w.cell? ⟨0, i, none⟩ = some v
theorem Ge.below {w w' : World} (h : Ge w) (hb : Below w.heap.size w w') : Ge w' := fun i v hv => by
  have := h i v hv
  rw [hb.cell (World.block_lt_of_cell? _ _ this)]; exact this
/-- What entityOf answers. -/
def entR (l : List UInt8) : Ending := match ent l with
  | some (n, a) => .returned (.tuple #[.int .i64 (n : Int), .string ⟨#[a]⟩])
  | none => .returned (.tuple #[.int .i64 0, .string ⟨#[]⟩])
def EntP (l : List UInt8) (w : World) (e : Ending) (w' : World) : Prop := e = entR l ∧ Below w.heap.size w w'
theorem entR_0 {l : List UInt8} (h0 : M1.isPrefixOf l = true) : entR l = .returned (.tuple #[.int .i64 5, .string ⟨#[38]⟩]) := by
  unfold entR ent
  rw [h0]; rfl
theorem entR_1 {l : List UInt8} (h0 : M1.isPrefixOf l = false) (h1 : M2.isPrefixOf l = true) : entR l = .returned (.tuple #[.int .i64 4, .string ⟨#[60]⟩]) := by
  unfold entR ent
  rw [h0, h1]; rfl
theorem entR_2 {l : List UInt8} (h0 : M1.isPrefixOf l = false) (h1 : M2.isPrefixOf l = false) (h2 : M3.isPrefixOf l = true) : entR l = .returned (.tuple #[.int .i64 4, .string ⟨#[62]⟩]) := by
  unfold entR ent
  rw [h0, h1, h2]; rfl
theorem entR_3 {l : List UInt8} (h0 : M1.isPrefixOf l = false) (h1 : M2.isPrefixOf l = false) (h2 : M3.isPrefixOf l = false) (h3 : M4.isPrefixOf l = true) : entR l = .returned (.tuple #[.int .i64 6, .string ⟨#[34]⟩]) := by
  unfold entR ent
  rw [h0, h1, h2, h3]; rfl
theorem entR_4 {l : List UInt8} (h0 : M1.isPrefixOf l = false) (h1 : M2.isPrefixOf l = false) (h2 : M3.isPrefixOf l = false) (h3 : M4.isPrefixOf l = false) (h4 : M5.isPrefixOf l = true) : entR l = .returned (.tuple #[.int .i64 6, .string ⟨#[32]⟩]) := by
  unfold entR ent
  rw [h0, h1, h2, h3, h4]; rfl
theorem entR_5 {l : List UInt8} (h0 : M1.isPrefixOf l = false) (h1 : M2.isPrefixOf l = false) (h2 : M3.isPrefixOf l = false) (h3 : M4.isPrefixOf l = false) (h4 : M5.isPrefixOf l = false) : entR l = .returned (.tuple #[.int .i64 0, .string ⟨#[]⟩]) := by
  unfold entR ent
  rw [h0, h1, h2, h3, h4]; rfl
theorem pre_any (s : ByteArray) (m : List UInt8) (b : Bool) (h : m.isPrefixOf s.data.toList = b) (W : World) :
    Calls Tryd.prog 43 #[.string s, .string ⟨m.toArray⟩] W fun e w' => e = .returned (.bool b) ∧ w' = W := by
  subst h
  exact Any.strings_HasPrefix Tryd.lays99 s ⟨m.toArray⟩ W
set_option maxRecDepth 100000 in
set_option maxHeartbeats 4000000 in
theorem entity_0 (s : ByteArray) (w : World) (hE : Ge w) (h0 : M1.isPrefixOf s.data.toList = true) : Calls Tryd.prog 33 #[.string s] w (EntP s.data.toList w) := by
  have HR := Lib.hid (entR_0 h0)
  have HB0 := Lib.hid (Below.refl w.heap.size w)
  have c0 : w.cell? ⟨0, 0, none⟩ = some (.string ⟨#[38, 97, 109, 112, 59]⟩) := hE 0 _ rfl
  have c1 : w.cell? ⟨0, 1, none⟩ = some (.string ⟨#[38]⟩) := hE 1 _ rfl
  have c2 : w.cell? ⟨0, 2, none⟩ = some (.string ⟨#[38, 108, 116, 59]⟩) := hE 2 _ rfl
  have c3 : w.cell? ⟨0, 3, none⟩ = some (.string ⟨#[60]⟩) := hE 3 _ rfl
  have c4 : w.cell? ⟨0, 4, none⟩ = some (.string ⟨#[38, 103, 116, 59]⟩) := hE 4 _ rfl
  have c5 : w.cell? ⟨0, 5, none⟩ = some (.string ⟨#[62]⟩) := hE 5 _ rfl
  have c6 : w.cell? ⟨0, 6, none⟩ = some (.string ⟨#[38, 113, 117, 111, 116, 59]⟩) := hE 6 _ rfl
  have c7 : w.cell? ⟨0, 7, none⟩ = some (.string ⟨#[34]⟩) := hE 7 _ rfl
  have c8 : w.cell? ⟨0, 8, none⟩ = some (.string ⟨#[38, 110, 98, 115, 112, 59]⟩) := hE 8 _ rfl
  have c9 : w.cell? ⟨0, 9, none⟩ = some (.string ⟨#[32]⟩) := hE 9 _ rfl
  have ix0 : ∀ W : World, (Instr.index 63 (.agg #[.string ⟨#[38, 97, 109, 112, 59]⟩, .string ⟨#[38]⟩, .string ⟨#[38, 108, 116, 59]⟩, .string ⟨#[60]⟩, .string ⟨#[38, 103, 116, 59]⟩, .string ⟨#[62]⟩, .string ⟨#[38, 113, 117, 111, 116, 59]⟩, .string ⟨#[34]⟩, .string ⟨#[38, 110, 98, 115, 112, 59]⟩, .string ⟨#[32]⟩]) (.int .i64 0)).run Tryd.prog W = .ok (.agg #[.string ⟨#[38, 97, 109, 112, 59]⟩, .string ⟨#[38]⟩]) W := fun W => rfl
  have P0 := Lib.hid (pre_any s M1 _ h0)
  clear hE h0
  go_enter Tryd.func33, Tryd.ntmps33
  go_wp2_with fail
  go_loopw [7] (fun i wr => (i = .int .i64 0) ∧ Hid (Below w.heap.size w wr)) (fun i _ => 5 - (RowKit.intOf i).toNat)
  case atStart => exact ⟨rfl, HB0.out⟩
  case round =>
    obtain ⟨hi, HB⟩ := hrel
    rcases hi with rfl
    · go_wp2_with fail
      refine (P0.out _).mono ?_
      rintro r x ⟨rfl, hx⟩
      subst hx
      go_wp2_with fail
      go_region
      go_wp2_with fail
      go_ret2
      exact ⟨by rw [HR.out]; rfl, (HB.out.alloc HB.out.size _).drew⟩
set_option maxRecDepth 100000 in
set_option maxHeartbeats 4000000 in
theorem entity_1 (s : ByteArray) (w : World) (hE : Ge w) (h0 : M1.isPrefixOf s.data.toList = false) (h1 : M2.isPrefixOf s.data.toList = true) : Calls Tryd.prog 33 #[.string s] w (EntP s.data.toList w) := by
  have HR := Lib.hid (entR_1 h0 h1)
  have HB0 := Lib.hid (Below.refl w.heap.size w)
  have c0 : w.cell? ⟨0, 0, none⟩ = some (.string ⟨#[38, 97, 109, 112, 59]⟩) := hE 0 _ rfl
  have c1 : w.cell? ⟨0, 1, none⟩ = some (.string ⟨#[38]⟩) := hE 1 _ rfl
  have c2 : w.cell? ⟨0, 2, none⟩ = some (.string ⟨#[38, 108, 116, 59]⟩) := hE 2 _ rfl
  have c3 : w.cell? ⟨0, 3, none⟩ = some (.string ⟨#[60]⟩) := hE 3 _ rfl
  have c4 : w.cell? ⟨0, 4, none⟩ = some (.string ⟨#[38, 103, 116, 59]⟩) := hE 4 _ rfl
  have c5 : w.cell? ⟨0, 5, none⟩ = some (.string ⟨#[62]⟩) := hE 5 _ rfl
  have c6 : w.cell? ⟨0, 6, none⟩ = some (.string ⟨#[38, 113, 117, 111, 116, 59]⟩) := hE 6 _ rfl
  have c7 : w.cell? ⟨0, 7, none⟩ = some (.string ⟨#[34]⟩) := hE 7 _ rfl
  have c8 : w.cell? ⟨0, 8, none⟩ = some (.string ⟨#[38, 110, 98, 115, 112, 59]⟩) := hE 8 _ rfl
  have c9 : w.cell? ⟨0, 9, none⟩ = some (.string ⟨#[32]⟩) := hE 9 _ rfl
  have ix0 : ∀ W : World, (Instr.index 63 (.agg #[.string ⟨#[38, 97, 109, 112, 59]⟩, .string ⟨#[38]⟩, .string ⟨#[38, 108, 116, 59]⟩, .string ⟨#[60]⟩, .string ⟨#[38, 103, 116, 59]⟩, .string ⟨#[62]⟩, .string ⟨#[38, 113, 117, 111, 116, 59]⟩, .string ⟨#[34]⟩, .string ⟨#[38, 110, 98, 115, 112, 59]⟩, .string ⟨#[32]⟩]) (.int .i64 0)).run Tryd.prog W = .ok (.agg #[.string ⟨#[38, 97, 109, 112, 59]⟩, .string ⟨#[38]⟩]) W := fun W => rfl
  have P0 := Lib.hid (pre_any s M1 _ h0)
  have ix1 : ∀ W : World, (Instr.index 63 (.agg #[.string ⟨#[38, 97, 109, 112, 59]⟩, .string ⟨#[38]⟩, .string ⟨#[38, 108, 116, 59]⟩, .string ⟨#[60]⟩, .string ⟨#[38, 103, 116, 59]⟩, .string ⟨#[62]⟩, .string ⟨#[38, 113, 117, 111, 116, 59]⟩, .string ⟨#[34]⟩, .string ⟨#[38, 110, 98, 115, 112, 59]⟩, .string ⟨#[32]⟩]) (.int .i64 1)).run Tryd.prog W = .ok (.agg #[.string ⟨#[38, 108, 116, 59]⟩, .string ⟨#[60]⟩]) W := fun W => rfl
  have P1 := Lib.hid (pre_any s M2 _ h1)
  clear hE h0 h1
  go_enter Tryd.func33, Tryd.ntmps33
  go_wp2_with fail
  go_loopw [7] (fun i wr => (i = .int .i64 0 ∨ i = .int .i64 1) ∧ Hid (Below w.heap.size w wr)) (fun i _ => 5 - (RowKit.intOf i).toNat)
  case atStart => exact ⟨.inl rfl, HB0.out⟩
  case round =>
    obtain ⟨hi, HB⟩ := hrel
    rcases hi with rfl | rfl
    · go_wp2_with fail
      refine (P0.out _).mono ?_
      rintro r x ⟨rfl, hx⟩
      subst hx
      go_wp2_with fail
      exact ⟨⟨.inr (rfl), HB.out.alloc HB.out.size _⟩, by simp [RowKit.intOf]⟩
    · go_wp2_with fail
      refine (P1.out _).mono ?_
      rintro r x ⟨rfl, hx⟩
      subst hx
      go_wp2_with fail
      go_region
      go_wp2_with fail
      go_ret2
      exact ⟨by rw [HR.out]; rfl, (HB.out.alloc HB.out.size _).drew⟩
set_option maxRecDepth 100000 in
set_option maxHeartbeats 4000000 in
theorem entity_2 (s : ByteArray) (w : World) (hE : Ge w) (h0 : M1.isPrefixOf s.data.toList = false) (h1 : M2.isPrefixOf s.data.toList = false) (h2 : M3.isPrefixOf s.data.toList = true) : Calls Tryd.prog 33 #[.string s] w (EntP s.data.toList w) := by
  have HR := Lib.hid (entR_2 h0 h1 h2)
  have HB0 := Lib.hid (Below.refl w.heap.size w)
  have c0 : w.cell? ⟨0, 0, none⟩ = some (.string ⟨#[38, 97, 109, 112, 59]⟩) := hE 0 _ rfl
  have c1 : w.cell? ⟨0, 1, none⟩ = some (.string ⟨#[38]⟩) := hE 1 _ rfl
  have c2 : w.cell? ⟨0, 2, none⟩ = some (.string ⟨#[38, 108, 116, 59]⟩) := hE 2 _ rfl
  have c3 : w.cell? ⟨0, 3, none⟩ = some (.string ⟨#[60]⟩) := hE 3 _ rfl
  have c4 : w.cell? ⟨0, 4, none⟩ = some (.string ⟨#[38, 103, 116, 59]⟩) := hE 4 _ rfl
  have c5 : w.cell? ⟨0, 5, none⟩ = some (.string ⟨#[62]⟩) := hE 5 _ rfl
  have c6 : w.cell? ⟨0, 6, none⟩ = some (.string ⟨#[38, 113, 117, 111, 116, 59]⟩) := hE 6 _ rfl
  have c7 : w.cell? ⟨0, 7, none⟩ = some (.string ⟨#[34]⟩) := hE 7 _ rfl
  have c8 : w.cell? ⟨0, 8, none⟩ = some (.string ⟨#[38, 110, 98, 115, 112, 59]⟩) := hE 8 _ rfl
  have c9 : w.cell? ⟨0, 9, none⟩ = some (.string ⟨#[32]⟩) := hE 9 _ rfl
  have ix0 : ∀ W : World, (Instr.index 63 (.agg #[.string ⟨#[38, 97, 109, 112, 59]⟩, .string ⟨#[38]⟩, .string ⟨#[38, 108, 116, 59]⟩, .string ⟨#[60]⟩, .string ⟨#[38, 103, 116, 59]⟩, .string ⟨#[62]⟩, .string ⟨#[38, 113, 117, 111, 116, 59]⟩, .string ⟨#[34]⟩, .string ⟨#[38, 110, 98, 115, 112, 59]⟩, .string ⟨#[32]⟩]) (.int .i64 0)).run Tryd.prog W = .ok (.agg #[.string ⟨#[38, 97, 109, 112, 59]⟩, .string ⟨#[38]⟩]) W := fun W => rfl
  have P0 := Lib.hid (pre_any s M1 _ h0)
  have ix1 : ∀ W : World, (Instr.index 63 (.agg #[.string ⟨#[38, 97, 109, 112, 59]⟩, .string ⟨#[38]⟩, .string ⟨#[38, 108, 116, 59]⟩, .string ⟨#[60]⟩, .string ⟨#[38, 103, 116, 59]⟩, .string ⟨#[62]⟩, .string ⟨#[38, 113, 117, 111, 116, 59]⟩, .string ⟨#[34]⟩, .string ⟨#[38, 110, 98, 115, 112, 59]⟩, .string ⟨#[32]⟩]) (.int .i64 1)).run Tryd.prog W = .ok (.agg #[.string ⟨#[38, 108, 116, 59]⟩, .string ⟨#[60]⟩]) W := fun W => rfl
  have P1 := Lib.hid (pre_any s M2 _ h1)
  have ix2 : ∀ W : World, (Instr.index 63 (.agg #[.string ⟨#[38, 97, 109, 112, 59]⟩, .string ⟨#[38]⟩, .string ⟨#[38, 108, 116, 59]⟩, .string ⟨#[60]⟩, .string ⟨#[38, 103, 116, 59]⟩, .string ⟨#[62]⟩, .string ⟨#[38, 113, 117, 111, 116, 59]⟩, .string ⟨#[34]⟩, .string ⟨#[38, 110, 98, 115, 112, 59]⟩, .string ⟨#[32]⟩]) (.int .i64 2)).run Tryd.prog W = .ok (.agg #[.string ⟨#[38, 103, 116, 59]⟩, .string ⟨#[62]⟩]) W := fun W => rfl
  have P2 := Lib.hid (pre_any s M3 _ h2)
  clear hE h0 h1 h2
  go_enter Tryd.func33, Tryd.ntmps33
  go_wp2_with fail
  go_loopw [7] (fun i wr => (i = .int .i64 0 ∨ i = .int .i64 1 ∨ i = .int .i64 2) ∧ Hid (Below w.heap.size w wr)) (fun i _ => 5 - (RowKit.intOf i).toNat)
  case atStart => exact ⟨.inl rfl, HB0.out⟩
  case round =>
    obtain ⟨hi, HB⟩ := hrel
    rcases hi with rfl | rfl | rfl
    · go_wp2_with fail
      refine (P0.out _).mono ?_
      rintro r x ⟨rfl, hx⟩
      subst hx
      go_wp2_with fail
      exact ⟨⟨.inr (.inl rfl), HB.out.alloc HB.out.size _⟩, by simp [RowKit.intOf]⟩
    · go_wp2_with fail
      refine (P1.out _).mono ?_
      rintro r x ⟨rfl, hx⟩
      subst hx
      go_wp2_with fail
      exact ⟨⟨.inr (.inr (rfl)), HB.out.alloc HB.out.size _⟩, by simp [RowKit.intOf]⟩
    · go_wp2_with fail
      refine (P2.out _).mono ?_
      rintro r x ⟨rfl, hx⟩
      subst hx
      go_wp2_with fail
      go_region
      go_wp2_with fail
      go_ret2
      exact ⟨by rw [HR.out]; rfl, (HB.out.alloc HB.out.size _).drew⟩
set_option maxRecDepth 100000 in
set_option maxHeartbeats 4000000 in
theorem entity_3 (s : ByteArray) (w : World) (hE : Ge w) (h0 : M1.isPrefixOf s.data.toList = false) (h1 : M2.isPrefixOf s.data.toList = false) (h2 : M3.isPrefixOf s.data.toList = false) (h3 : M4.isPrefixOf s.data.toList = true) : Calls Tryd.prog 33 #[.string s] w (EntP s.data.toList w) := by
  have HR := Lib.hid (entR_3 h0 h1 h2 h3)
  have HB0 := Lib.hid (Below.refl w.heap.size w)
  have c0 : w.cell? ⟨0, 0, none⟩ = some (.string ⟨#[38, 97, 109, 112, 59]⟩) := hE 0 _ rfl
  have c1 : w.cell? ⟨0, 1, none⟩ = some (.string ⟨#[38]⟩) := hE 1 _ rfl
  have c2 : w.cell? ⟨0, 2, none⟩ = some (.string ⟨#[38, 108, 116, 59]⟩) := hE 2 _ rfl
  have c3 : w.cell? ⟨0, 3, none⟩ = some (.string ⟨#[60]⟩) := hE 3 _ rfl
  have c4 : w.cell? ⟨0, 4, none⟩ = some (.string ⟨#[38, 103, 116, 59]⟩) := hE 4 _ rfl
  have c5 : w.cell? ⟨0, 5, none⟩ = some (.string ⟨#[62]⟩) := hE 5 _ rfl
  have c6 : w.cell? ⟨0, 6, none⟩ = some (.string ⟨#[38, 113, 117, 111, 116, 59]⟩) := hE 6 _ rfl
  have c7 : w.cell? ⟨0, 7, none⟩ = some (.string ⟨#[34]⟩) := hE 7 _ rfl
  have c8 : w.cell? ⟨0, 8, none⟩ = some (.string ⟨#[38, 110, 98, 115, 112, 59]⟩) := hE 8 _ rfl
  have c9 : w.cell? ⟨0, 9, none⟩ = some (.string ⟨#[32]⟩) := hE 9 _ rfl
  have ix0 : ∀ W : World, (Instr.index 63 (.agg #[.string ⟨#[38, 97, 109, 112, 59]⟩, .string ⟨#[38]⟩, .string ⟨#[38, 108, 116, 59]⟩, .string ⟨#[60]⟩, .string ⟨#[38, 103, 116, 59]⟩, .string ⟨#[62]⟩, .string ⟨#[38, 113, 117, 111, 116, 59]⟩, .string ⟨#[34]⟩, .string ⟨#[38, 110, 98, 115, 112, 59]⟩, .string ⟨#[32]⟩]) (.int .i64 0)).run Tryd.prog W = .ok (.agg #[.string ⟨#[38, 97, 109, 112, 59]⟩, .string ⟨#[38]⟩]) W := fun W => rfl
  have P0 := Lib.hid (pre_any s M1 _ h0)
  have ix1 : ∀ W : World, (Instr.index 63 (.agg #[.string ⟨#[38, 97, 109, 112, 59]⟩, .string ⟨#[38]⟩, .string ⟨#[38, 108, 116, 59]⟩, .string ⟨#[60]⟩, .string ⟨#[38, 103, 116, 59]⟩, .string ⟨#[62]⟩, .string ⟨#[38, 113, 117, 111, 116, 59]⟩, .string ⟨#[34]⟩, .string ⟨#[38, 110, 98, 115, 112, 59]⟩, .string ⟨#[32]⟩]) (.int .i64 1)).run Tryd.prog W = .ok (.agg #[.string ⟨#[38, 108, 116, 59]⟩, .string ⟨#[60]⟩]) W := fun W => rfl
  have P1 := Lib.hid (pre_any s M2 _ h1)
  have ix2 : ∀ W : World, (Instr.index 63 (.agg #[.string ⟨#[38, 97, 109, 112, 59]⟩, .string ⟨#[38]⟩, .string ⟨#[38, 108, 116, 59]⟩, .string ⟨#[60]⟩, .string ⟨#[38, 103, 116, 59]⟩, .string ⟨#[62]⟩, .string ⟨#[38, 113, 117, 111, 116, 59]⟩, .string ⟨#[34]⟩, .string ⟨#[38, 110, 98, 115, 112, 59]⟩, .string ⟨#[32]⟩]) (.int .i64 2)).run Tryd.prog W = .ok (.agg #[.string ⟨#[38, 103, 116, 59]⟩, .string ⟨#[62]⟩]) W := fun W => rfl
  have P2 := Lib.hid (pre_any s M3 _ h2)
  have ix3 : ∀ W : World, (Instr.index 63 (.agg #[.string ⟨#[38, 97, 109, 112, 59]⟩, .string ⟨#[38]⟩, .string ⟨#[38, 108, 116, 59]⟩, .string ⟨#[60]⟩, .string ⟨#[38, 103, 116, 59]⟩, .string ⟨#[62]⟩, .string ⟨#[38, 113, 117, 111, 116, 59]⟩, .string ⟨#[34]⟩, .string ⟨#[38, 110, 98, 115, 112, 59]⟩, .string ⟨#[32]⟩]) (.int .i64 3)).run Tryd.prog W = .ok (.agg #[.string ⟨#[38, 113, 117, 111, 116, 59]⟩, .string ⟨#[34]⟩]) W := fun W => rfl
  have P3 := Lib.hid (pre_any s M4 _ h3)
  clear hE h0 h1 h2 h3
  go_enter Tryd.func33, Tryd.ntmps33
  go_wp2_with fail
  go_loopw [7] (fun i wr => (i = .int .i64 0 ∨ i = .int .i64 1 ∨ i = .int .i64 2 ∨ i = .int .i64 3) ∧ Hid (Below w.heap.size w wr)) (fun i _ => 5 - (RowKit.intOf i).toNat)
  case atStart => exact ⟨.inl rfl, HB0.out⟩
  case round =>
    obtain ⟨hi, HB⟩ := hrel
    rcases hi with rfl | rfl | rfl | rfl
    · go_wp2_with fail
      refine (P0.out _).mono ?_
      rintro r x ⟨rfl, hx⟩
      subst hx
      go_wp2_with fail
      exact ⟨⟨.inr (.inl rfl), HB.out.alloc HB.out.size _⟩, by simp [RowKit.intOf]⟩
    · go_wp2_with fail
      refine (P1.out _).mono ?_
      rintro r x ⟨rfl, hx⟩
      subst hx
      go_wp2_with fail
      exact ⟨⟨.inr (.inr (.inl rfl)), HB.out.alloc HB.out.size _⟩, by simp [RowKit.intOf]⟩
    · go_wp2_with fail
      refine (P2.out _).mono ?_
      rintro r x ⟨rfl, hx⟩
      subst hx
      go_wp2_with fail
      exact ⟨⟨.inr (.inr (.inr (rfl))), HB.out.alloc HB.out.size _⟩, by simp [RowKit.intOf]⟩
    · go_wp2_with fail
      refine (P3.out _).mono ?_
      rintro r x ⟨rfl, hx⟩
      subst hx
      go_wp2_with fail
      go_region
      go_wp2_with fail
      go_ret2
      exact ⟨by rw [HR.out]; rfl, (HB.out.alloc HB.out.size _).drew⟩
set_option maxRecDepth 100000 in
set_option maxHeartbeats 4000000 in
theorem entity_4 (s : ByteArray) (w : World) (hE : Ge w) (h0 : M1.isPrefixOf s.data.toList = false) (h1 : M2.isPrefixOf s.data.toList = false) (h2 : M3.isPrefixOf s.data.toList = false) (h3 : M4.isPrefixOf s.data.toList = false) (h4 : M5.isPrefixOf s.data.toList = true) : Calls Tryd.prog 33 #[.string s] w (EntP s.data.toList w) := by
  have HR := Lib.hid (entR_4 h0 h1 h2 h3 h4)
  have HB0 := Lib.hid (Below.refl w.heap.size w)
  have c0 : w.cell? ⟨0, 0, none⟩ = some (.string ⟨#[38, 97, 109, 112, 59]⟩) := hE 0 _ rfl
  have c1 : w.cell? ⟨0, 1, none⟩ = some (.string ⟨#[38]⟩) := hE 1 _ rfl
  have c2 : w.cell? ⟨0, 2, none⟩ = some (.string ⟨#[38, 108, 116, 59]⟩) := hE 2 _ rfl
  have c3 : w.cell? ⟨0, 3, none⟩ = some (.string ⟨#[60]⟩) := hE 3 _ rfl
  have c4 : w.cell? ⟨0, 4, none⟩ = some (.string ⟨#[38, 103, 116, 59]⟩) := hE 4 _ rfl
  have c5 : w.cell? ⟨0, 5, none⟩ = some (.string ⟨#[62]⟩) := hE 5 _ rfl
  have c6 : w.cell? ⟨0, 6, none⟩ = some (.string ⟨#[38, 113, 117, 111, 116, 59]⟩) := hE 6 _ rfl
  have c7 : w.cell? ⟨0, 7, none⟩ = some (.string ⟨#[34]⟩) := hE 7 _ rfl
  have c8 : w.cell? ⟨0, 8, none⟩ = some (.string ⟨#[38, 110, 98, 115, 112, 59]⟩) := hE 8 _ rfl
  have c9 : w.cell? ⟨0, 9, none⟩ = some (.string ⟨#[32]⟩) := hE 9 _ rfl
  have ix0 : ∀ W : World, (Instr.index 63 (.agg #[.string ⟨#[38, 97, 109, 112, 59]⟩, .string ⟨#[38]⟩, .string ⟨#[38, 108, 116, 59]⟩, .string ⟨#[60]⟩, .string ⟨#[38, 103, 116, 59]⟩, .string ⟨#[62]⟩, .string ⟨#[38, 113, 117, 111, 116, 59]⟩, .string ⟨#[34]⟩, .string ⟨#[38, 110, 98, 115, 112, 59]⟩, .string ⟨#[32]⟩]) (.int .i64 0)).run Tryd.prog W = .ok (.agg #[.string ⟨#[38, 97, 109, 112, 59]⟩, .string ⟨#[38]⟩]) W := fun W => rfl
  have P0 := Lib.hid (pre_any s M1 _ h0)
  have ix1 : ∀ W : World, (Instr.index 63 (.agg #[.string ⟨#[38, 97, 109, 112, 59]⟩, .string ⟨#[38]⟩, .string ⟨#[38, 108, 116, 59]⟩, .string ⟨#[60]⟩, .string ⟨#[38, 103, 116, 59]⟩, .string ⟨#[62]⟩, .string ⟨#[38, 113, 117, 111, 116, 59]⟩, .string ⟨#[34]⟩, .string ⟨#[38, 110, 98, 115, 112, 59]⟩, .string ⟨#[32]⟩]) (.int .i64 1)).run Tryd.prog W = .ok (.agg #[.string ⟨#[38, 108, 116, 59]⟩, .string ⟨#[60]⟩]) W := fun W => rfl
  have P1 := Lib.hid (pre_any s M2 _ h1)
  have ix2 : ∀ W : World, (Instr.index 63 (.agg #[.string ⟨#[38, 97, 109, 112, 59]⟩, .string ⟨#[38]⟩, .string ⟨#[38, 108, 116, 59]⟩, .string ⟨#[60]⟩, .string ⟨#[38, 103, 116, 59]⟩, .string ⟨#[62]⟩, .string ⟨#[38, 113, 117, 111, 116, 59]⟩, .string ⟨#[34]⟩, .string ⟨#[38, 110, 98, 115, 112, 59]⟩, .string ⟨#[32]⟩]) (.int .i64 2)).run Tryd.prog W = .ok (.agg #[.string ⟨#[38, 103, 116, 59]⟩, .string ⟨#[62]⟩]) W := fun W => rfl
  have P2 := Lib.hid (pre_any s M3 _ h2)
  have ix3 : ∀ W : World, (Instr.index 63 (.agg #[.string ⟨#[38, 97, 109, 112, 59]⟩, .string ⟨#[38]⟩, .string ⟨#[38, 108, 116, 59]⟩, .string ⟨#[60]⟩, .string ⟨#[38, 103, 116, 59]⟩, .string ⟨#[62]⟩, .string ⟨#[38, 113, 117, 111, 116, 59]⟩, .string ⟨#[34]⟩, .string ⟨#[38, 110, 98, 115, 112, 59]⟩, .string ⟨#[32]⟩]) (.int .i64 3)).run Tryd.prog W = .ok (.agg #[.string ⟨#[38, 113, 117, 111, 116, 59]⟩, .string ⟨#[34]⟩]) W := fun W => rfl
  have P3 := Lib.hid (pre_any s M4 _ h3)
  have ix4 : ∀ W : World, (Instr.index 63 (.agg #[.string ⟨#[38, 97, 109, 112, 59]⟩, .string ⟨#[38]⟩, .string ⟨#[38, 108, 116, 59]⟩, .string ⟨#[60]⟩, .string ⟨#[38, 103, 116, 59]⟩, .string ⟨#[62]⟩, .string ⟨#[38, 113, 117, 111, 116, 59]⟩, .string ⟨#[34]⟩, .string ⟨#[38, 110, 98, 115, 112, 59]⟩, .string ⟨#[32]⟩]) (.int .i64 4)).run Tryd.prog W = .ok (.agg #[.string ⟨#[38, 110, 98, 115, 112, 59]⟩, .string ⟨#[32]⟩]) W := fun W => rfl
  have P4 := Lib.hid (pre_any s M5 _ h4)
  clear hE h0 h1 h2 h3 h4
  go_enter Tryd.func33, Tryd.ntmps33
  go_wp2_with fail
  go_loopw [7] (fun i wr => (i = .int .i64 0 ∨ i = .int .i64 1 ∨ i = .int .i64 2 ∨ i = .int .i64 3 ∨ i = .int .i64 4) ∧ Hid (Below w.heap.size w wr)) (fun i _ => 5 - (RowKit.intOf i).toNat)
  case atStart => exact ⟨.inl rfl, HB0.out⟩
  case round =>
    obtain ⟨hi, HB⟩ := hrel
    rcases hi with rfl | rfl | rfl | rfl | rfl
    · go_wp2_with fail
      refine (P0.out _).mono ?_
      rintro r x ⟨rfl, hx⟩
      subst hx
      go_wp2_with fail
      exact ⟨⟨.inr (.inl rfl), HB.out.alloc HB.out.size _⟩, by simp [RowKit.intOf]⟩
    · go_wp2_with fail
      refine (P1.out _).mono ?_
      rintro r x ⟨rfl, hx⟩
      subst hx
      go_wp2_with fail
      exact ⟨⟨.inr (.inr (.inl rfl)), HB.out.alloc HB.out.size _⟩, by simp [RowKit.intOf]⟩
    · go_wp2_with fail
      refine (P2.out _).mono ?_
      rintro r x ⟨rfl, hx⟩
      subst hx
      go_wp2_with fail
      exact ⟨⟨.inr (.inr (.inr (.inl rfl))), HB.out.alloc HB.out.size _⟩, by simp [RowKit.intOf]⟩
    · go_wp2_with fail
      refine (P3.out _).mono ?_
      rintro r x ⟨rfl, hx⟩
      subst hx
      go_wp2_with fail
      exact ⟨⟨.inr (.inr (.inr (.inr (rfl)))), HB.out.alloc HB.out.size _⟩, by simp [RowKit.intOf]⟩
    · go_wp2_with fail
      refine (P4.out _).mono ?_
      rintro r x ⟨rfl, hx⟩
      subst hx
      go_wp2_with fail
      go_region
      go_wp2_with fail
      go_ret2
      exact ⟨by rw [HR.out]; rfl, (HB.out.alloc HB.out.size _).drew⟩
set_option maxRecDepth 100000 in
set_option maxHeartbeats 4000000 in
theorem entity_5 (s : ByteArray) (w : World) (hE : Ge w) (h0 : M1.isPrefixOf s.data.toList = false) (h1 : M2.isPrefixOf s.data.toList = false) (h2 : M3.isPrefixOf s.data.toList = false) (h3 : M4.isPrefixOf s.data.toList = false) (h4 : M5.isPrefixOf s.data.toList = false) : Calls Tryd.prog 33 #[.string s] w (EntP s.data.toList w) := by
  have HR := Lib.hid (entR_5 h0 h1 h2 h3 h4)
  have HB0 := Lib.hid (Below.refl w.heap.size w)
  have c0 : w.cell? ⟨0, 0, none⟩ = some (.string ⟨#[38, 97, 109, 112, 59]⟩) := hE 0 _ rfl
  have c1 : w.cell? ⟨0, 1, none⟩ = some (.string ⟨#[38]⟩) := hE 1 _ rfl
  have c2 : w.cell? ⟨0, 2, none⟩ = some (.string ⟨#[38, 108, 116, 59]⟩) := hE 2 _ rfl
  have c3 : w.cell? ⟨0, 3, none⟩ = some (.string ⟨#[60]⟩) := hE 3 _ rfl
  have c4 : w.cell? ⟨0, 4, none⟩ = some (.string ⟨#[38, 103, 116, 59]⟩) := hE 4 _ rfl
  have c5 : w.cell? ⟨0, 5, none⟩ = some (.string ⟨#[62]⟩) := hE 5 _ rfl
  have c6 : w.cell? ⟨0, 6, none⟩ = some (.string ⟨#[38, 113, 117, 111, 116, 59]⟩) := hE 6 _ rfl
  have c7 : w.cell? ⟨0, 7, none⟩ = some (.string ⟨#[34]⟩) := hE 7 _ rfl
  have c8 : w.cell? ⟨0, 8, none⟩ = some (.string ⟨#[38, 110, 98, 115, 112, 59]⟩) := hE 8 _ rfl
  have c9 : w.cell? ⟨0, 9, none⟩ = some (.string ⟨#[32]⟩) := hE 9 _ rfl
  have ix0 : ∀ W : World, (Instr.index 63 (.agg #[.string ⟨#[38, 97, 109, 112, 59]⟩, .string ⟨#[38]⟩, .string ⟨#[38, 108, 116, 59]⟩, .string ⟨#[60]⟩, .string ⟨#[38, 103, 116, 59]⟩, .string ⟨#[62]⟩, .string ⟨#[38, 113, 117, 111, 116, 59]⟩, .string ⟨#[34]⟩, .string ⟨#[38, 110, 98, 115, 112, 59]⟩, .string ⟨#[32]⟩]) (.int .i64 0)).run Tryd.prog W = .ok (.agg #[.string ⟨#[38, 97, 109, 112, 59]⟩, .string ⟨#[38]⟩]) W := fun W => rfl
  have P0 := Lib.hid (pre_any s M1 _ h0)
  have ix1 : ∀ W : World, (Instr.index 63 (.agg #[.string ⟨#[38, 97, 109, 112, 59]⟩, .string ⟨#[38]⟩, .string ⟨#[38, 108, 116, 59]⟩, .string ⟨#[60]⟩, .string ⟨#[38, 103, 116, 59]⟩, .string ⟨#[62]⟩, .string ⟨#[38, 113, 117, 111, 116, 59]⟩, .string ⟨#[34]⟩, .string ⟨#[38, 110, 98, 115, 112, 59]⟩, .string ⟨#[32]⟩]) (.int .i64 1)).run Tryd.prog W = .ok (.agg #[.string ⟨#[38, 108, 116, 59]⟩, .string ⟨#[60]⟩]) W := fun W => rfl
  have P1 := Lib.hid (pre_any s M2 _ h1)
  have ix2 : ∀ W : World, (Instr.index 63 (.agg #[.string ⟨#[38, 97, 109, 112, 59]⟩, .string ⟨#[38]⟩, .string ⟨#[38, 108, 116, 59]⟩, .string ⟨#[60]⟩, .string ⟨#[38, 103, 116, 59]⟩, .string ⟨#[62]⟩, .string ⟨#[38, 113, 117, 111, 116, 59]⟩, .string ⟨#[34]⟩, .string ⟨#[38, 110, 98, 115, 112, 59]⟩, .string ⟨#[32]⟩]) (.int .i64 2)).run Tryd.prog W = .ok (.agg #[.string ⟨#[38, 103, 116, 59]⟩, .string ⟨#[62]⟩]) W := fun W => rfl
  have P2 := Lib.hid (pre_any s M3 _ h2)
  have ix3 : ∀ W : World, (Instr.index 63 (.agg #[.string ⟨#[38, 97, 109, 112, 59]⟩, .string ⟨#[38]⟩, .string ⟨#[38, 108, 116, 59]⟩, .string ⟨#[60]⟩, .string ⟨#[38, 103, 116, 59]⟩, .string ⟨#[62]⟩, .string ⟨#[38, 113, 117, 111, 116, 59]⟩, .string ⟨#[34]⟩, .string ⟨#[38, 110, 98, 115, 112, 59]⟩, .string ⟨#[32]⟩]) (.int .i64 3)).run Tryd.prog W = .ok (.agg #[.string ⟨#[38, 113, 117, 111, 116, 59]⟩, .string ⟨#[34]⟩]) W := fun W => rfl
  have P3 := Lib.hid (pre_any s M4 _ h3)
  have ix4 : ∀ W : World, (Instr.index 63 (.agg #[.string ⟨#[38, 97, 109, 112, 59]⟩, .string ⟨#[38]⟩, .string ⟨#[38, 108, 116, 59]⟩, .string ⟨#[60]⟩, .string ⟨#[38, 103, 116, 59]⟩, .string ⟨#[62]⟩, .string ⟨#[38, 113, 117, 111, 116, 59]⟩, .string ⟨#[34]⟩, .string ⟨#[38, 110, 98, 115, 112, 59]⟩, .string ⟨#[32]⟩]) (.int .i64 4)).run Tryd.prog W = .ok (.agg #[.string ⟨#[38, 110, 98, 115, 112, 59]⟩, .string ⟨#[32]⟩]) W := fun W => rfl
  have P4 := Lib.hid (pre_any s M5 _ h4)
  clear hE h0 h1 h2 h3 h4
  go_enter Tryd.func33, Tryd.ntmps33
  go_wp2_with fail
  go_loopw [7] (fun i wr => (i = .int .i64 0 ∨ i = .int .i64 1 ∨ i = .int .i64 2 ∨ i = .int .i64 3 ∨ i = .int .i64 4 ∨ i = .int .i64 5) ∧ Hid (Below w.heap.size w wr)) (fun i _ => 5 - (RowKit.intOf i).toNat)
  case atStart => exact ⟨.inl rfl, HB0.out⟩
  case round =>
    obtain ⟨hi, HB⟩ := hrel
    rcases hi with rfl | rfl | rfl | rfl | rfl | rfl
    · go_wp2_with fail
      refine (P0.out _).mono ?_
      rintro r x ⟨rfl, hx⟩
      subst hx
      go_wp2_with fail
      exact ⟨⟨.inr (.inl rfl), HB.out.alloc HB.out.size _⟩, by simp [RowKit.intOf]⟩
    · go_wp2_with fail
      refine (P1.out _).mono ?_
      rintro r x ⟨rfl, hx⟩
      subst hx
      go_wp2_with fail
      exact ⟨⟨.inr (.inr (.inl rfl)), HB.out.alloc HB.out.size _⟩, by simp [RowKit.intOf]⟩
    · go_wp2_with fail
      refine (P2.out _).mono ?_
      rintro r x ⟨rfl, hx⟩
      subst hx
      go_wp2_with fail
      exact ⟨⟨.inr (.inr (.inr (.inl rfl))), HB.out.alloc HB.out.size _⟩, by simp [RowKit.intOf]⟩
    · go_wp2_with fail
      refine (P3.out _).mono ?_
      rintro r x ⟨rfl, hx⟩
      subst hx
      go_wp2_with fail
      exact ⟨⟨.inr (.inr (.inr (.inr (.inl rfl)))), HB.out.alloc HB.out.size _⟩, by simp [RowKit.intOf]⟩
    · go_wp2_with fail
      refine (P4.out _).mono ?_
      rintro r x ⟨rfl, hx⟩
      subst hx
      go_wp2_with fail
      exact ⟨⟨.inr (.inr (.inr (.inr (.inr (rfl))))), HB.out.alloc HB.out.size _⟩, by simp [RowKit.intOf]⟩
    · go_wp2_with fail
      go_ret2
      exact ⟨by rw [HR.out]; rfl, HB.out⟩
theorem entity_any (s : ByteArray) (w : World) (hE : Ge w) : Calls Tryd.prog 33 #[.string s] w (EntP s.data.toList w) := by
  cases h0 : M1.isPrefixOf s.data.toList
  · cases h1 : M2.isPrefixOf s.data.toList
    · cases h2 : M3.isPrefixOf s.data.toList
      · cases h3 : M4.isPrefixOf s.data.toList
        · cases h4 : M5.isPrefixOf s.data.toList
          · exact entity_5 s w hE h0 h1 h2 h3 h4
          · exact entity_4 s w hE h0 h1 h2 h3 h4
        · exact entity_3 s w hE h0 h1 h2 h3
      · exact entity_2 s w hE h0 h1 h2
    · exact entity_1 s w hE h0 h1
  · exact entity_0 s w hE h0
end Go.Proofs.YtbadoidjdghklaaDoor
