/- The contract of the document's FromHtml. Condition: the text has at most 1048576 bytes. -/
import Derived.Test.YtbadoidjdghklaaDoorSj
import Derived.Test.YtbadoidjdghklaaDoorSh
import Derived.Test.YtbadoidjdghklaaDoorSd
import Derived.Deep.QuietTactic
import Derived.BigQuiet
namespace Go.Proofs.YtbadoidjdghklaaDoor
open Go.RowKit Go.Lib Go.Shelf Sg Sh

/-- The marks, and what they stand for. -/
def MK : Nat → ByteArray
  | 0 => ⟨#[38, 97, 109, 112, 59]⟩
  | 1 => ⟨#[38, 108, 116, 59]⟩
  | 2 => ⟨#[38, 103, 116, 59]⟩
  | 3 => ⟨#[38, 113, 117, 111, 116, 59]⟩
  | _ => ⟨#[38, 110, 98, 115, 112, 59]⟩
def ST : ByteArray := ⟨#[38, 60, 62, 34, 32]⟩
/-- A mark is no front of a text; it is. -/
def Np (M X : ByteArray) : Prop := X.size < M.size ∨ (M.size ≤ X.size ∧ ((X.extract 0 M.size).toList == M.toList) = false)
def Yp (M X : ByteArray) : Prop := M.size ≤ X.size ∧ ((X.extract 0 M.size).toList == M.toList) = true
theorem pre_iff (m : List UInt8) (X : ByteArray) : (m.isPrefixOf X.data.toList = true → Yp ⟨m.toArray⟩ X) ∧ (m.isPrefixOf X.data.toList = false → Np ⟨m.toArray⟩ X) := by
  have hs : (⟨m.toArray⟩ : ByteArray).size = m.length := rfl
  have hx : (X.extract 0 m.length).toList = X.data.toList.take m.length := by rw [ByteArray.toList_eq, By.extract_cut, List.drop_zero]
  have hm : (⟨m.toArray⟩ : ByteArray).toList = m := by rw [ByteArray.toList_eq]
  constructor
  · intro h
    obtain ⟨r, hr⟩ := List.isPrefixOf_iff_prefix.1 h
    refine ⟨by rw [hs, Lib.size_eq, ← hr]; simp, ?_⟩
    rw [hs, hx, hm, ← hr, List.take_left' rfl]
    exact beq_self_eq_true _
  · intro h
    by_cases hl : X.size < m.length
    · exact .inl (by rw [hs]; exact hl)
    · refine .inr ⟨by rw [hs]; omega, ?_⟩
      rw [hs, hx, hm, beq_eq_false_iff_ne]
      intro e
      have : m.isPrefixOf X.data.toList = true := List.isPrefixOf_iff_prefix.2 (by have := List.take_prefix m.length X.data.toList; rw [e] at this; exact this)
      rw [h] at this; cases this
theorem ent_marks (X : ByteArray) : (ent X.data.toList = none ∧ ∀ i, i < 5 → Np (MK i) X) ∨
    (∃ j, ∃ hj : j < ST.size, ent X.data.toList = some ((MK j).size, ST[j]'hj) ∧ j < 5 ∧ (∀ i, i < j → Np (MK i) X) ∧ Yp (MK j) X) := by
  rcases h0 : M1.isPrefixOf X.data.toList with _ | _
  rotate_left
  · refine .inr ⟨0, by decide, ?_, by omega, ?_, (pre_iff M1 X).1 h0⟩
    · unfold ent; rw [h0]; rfl
    · exact fun i hi => absurd hi (Nat.not_lt_zero _)
  rcases h1 : M2.isPrefixOf X.data.toList with _ | _
  rotate_left
  · refine .inr ⟨1, by decide, ?_, by omega, ?_, (pre_iff M2 X).1 h1⟩
    · unfold ent; rw [h0, h1]; rfl
    · exact fun i hi => by
        have : i = 0 := by omega
        rcases this with rfl
        · exact (pre_iff M1 X).2 h0

  rcases h2 : M3.isPrefixOf X.data.toList with _ | _
  rotate_left
  · refine .inr ⟨2, by decide, ?_, by omega, ?_, (pre_iff M3 X).1 h2⟩
    · unfold ent; rw [h0, h1, h2]; rfl
    · exact fun i hi => by
        have : i = 0 ∨ i = 1 := by omega
        rcases this with rfl | rfl
        · exact (pre_iff M1 X).2 h0
        · exact (pre_iff M2 X).2 h1

  rcases h3 : M4.isPrefixOf X.data.toList with _ | _
  rotate_left
  · refine .inr ⟨3, by decide, ?_, by omega, ?_, (pre_iff M4 X).1 h3⟩
    · unfold ent; rw [h0, h1, h2, h3]; rfl
    · exact fun i hi => by
        have : i = 0 ∨ i = 1 ∨ i = 2 := by omega
        rcases this with rfl | rfl | rfl
        · exact (pre_iff M1 X).2 h0
        · exact (pre_iff M2 X).2 h1
        · exact (pre_iff M3 X).2 h2

  rcases h4 : M5.isPrefixOf X.data.toList with _ | _
  rotate_left
  · refine .inr ⟨4, by decide, ?_, by omega, ?_, (pre_iff M5 X).1 h4⟩
    · unfold ent; rw [h0, h1, h2, h3, h4]; rfl
    · exact fun i hi => by
        have : i = 0 ∨ i = 1 ∨ i = 2 ∨ i = 3 := by omega
        rcases this with rfl | rfl | rfl | rfl
        · exact (pre_iff M1 X).2 h0
        · exact (pre_iff M2 X).2 h1
        · exact (pre_iff M3 X).2 h2
        · exact (pre_iff M4 X).2 h3

  refine .inl ⟨?_, ?_⟩
  · unfold ent; rw [h0, h1, h2, h3, h4]; rfl
  · exact fun i hi => by
        have : i = 0 ∨ i = 1 ∨ i = 2 ∨ i = 3 ∨ i = 4 := by omega
        rcases this with rfl | rfl | rfl | rfl | rfl
        · exact (pre_iff M1 X).2 h0
        · exact (pre_iff M2 X).2 h1
        · exact (pre_iff M3 X).2 h2
        · exact (pre_iff M4 X).2 h3
        · exact (pre_iff M5 X).2 h4

theorem mk_small (i : Nat) (h : i < 5) : 4 ≤ (MK i).size ∧ (MK i).size ≤ 6 := by
  have : i = 0 ∨ i = 1 ∨ i = 2 ∨ i = 3 ∨ i = 4 := by omega
  rcases this with rfl | rfl | rfl | rfl | rfl <;> exact ⟨by decide, by decide⟩
theorem mk_cell {w : World} {B : Nat} {t : TypeId} {fz : Nat × Nat} (h : w.heap[B]? = some (.cells #[.string ⟨#[38, 97, 109, 112, 59]⟩, .string ⟨#[38, 108, 116, 59]⟩, .string ⟨#[38, 103, 116, 59]⟩, .string ⟨#[38, 113, 117, 111, 116, 59]⟩, .string ⟨#[38, 110, 98, 115, 112, 59]⟩] t fz)) (i : Nat) (hi : i < 5) : w.cell? ⟨B, i, none⟩ = some (.string (MK i)) := by
  have : i = 0 ∨ i = 1 ∨ i = 2 ∨ i = 3 ∨ i = 4 := by omega
  rcases this with rfl | rfl | rfl | rfl | rfl <;> exact (Lib.cell_of_heap h _).trans rfl
theorem tg_cases (l : List UInt8) (hl : l ≠ []) : (∃ x y, cutAt 62 l = some (x, y) ∧ tg l = x.length + 1 ∧ frH l = brk (x ++ [62]) ++ frH (l.drop (x.length + 1)) ∧ x.length + 1 ≤ l.length ∧ l.take (x.length + 1) = x ++ [62]) ∨
    (tg l = 0 ∧ ∀ b r, l = b :: r → b ≠ 60 ∨ cutAt 62 l = none) := by
  by_cases h0 : l.head? = some 60
  · cases hc : cutAt 62 l with
    | none => exact .inr ⟨by unfold tg; rw [if_pos h0, hc], fun _ _ _ => .inr rfl⟩
    | some p =>
      obtain ⟨x, y⟩ := p
      obtain ⟨h1, _⟩ := cutAt_some hc
      refine .inl ⟨x, y, rfl, by unfold tg; rw [if_pos h0, hc], ?_, by rw [h1]; simp, by rw [h1, show x ++ 62 :: y = (x ++ [62]) ++ y by simp, List.take_left' (by simp)]⟩
      rw [frH_step hl, piece_elem h0 hc]
  · exact .inr ⟨tg_zero h0, fun b r e => .inl fun hb => h0 (by rw [e, hb]; rfl)⟩

/-- A text's length. -/
def szv : Value → Nat
  | .string X => X.size
  | _ => 0
theorem szv_str (X : ByteArray) : szv (.string X) = X.size := rfl

set_option maxRecDepth 100000 in
set_option maxHeartbeats 8000000 in
theorem rFromHtml_any (s : ByteArray) (w : World) (hs : s.size ≤ 1048576) :
    Calls Tryd.prog 20 #[.string s] w fun e w' => e = .returned (.string (mk (frH s.data.toList))) ∧ Below w.heap.size w w' := by
  obtain ⟨i0, hi0, hz0, hz1, hz2⟩ := info_parts infoU8
  have HS := Lib.hid hs
  obtain ⟨W, hW⟩ : ∃ W, w.alloc (.cells #[.string ⟨#[38, 97, 109, 112, 59]⟩, .string ⟨#[38, 108, 116, 59]⟩, .string ⟨#[38, 103, 116, 59]⟩, .string ⟨#[38, 113, 117, 111, 116, 59]⟩, .string ⟨#[38, 110, 98, 115, 112, 59]⟩] 9) = W := ⟨_, rfl⟩
  have H0 : Hid (Ro W (.slice none 0 0) [] (w.alloc (.cells #[.string ⟨#[38, 97, 109, 112, 59]⟩, .string ⟨#[38, 108, 116, 59]⟩, .string ⟨#[38, 103, 116, 59]⟩, .string ⟨#[38, 113, 117, 111, 116, 59]⟩, .string ⟨#[38, 110, 98, 115, 112, 59]⟩] 9))) := by rw [hW]; exact Ro.nil W
  have HWm : Hid (W.heap[w.heap.size]? = some (.cells #[.string ⟨#[38, 97, 109, 112, 59]⟩, .string ⟨#[38, 108, 116, 59]⟩, .string ⟨#[38, 103, 116, 59]⟩, .string ⟨#[38, 113, 117, 111, 116, 59]⟩, .string ⟨#[38, 110, 98, 115, 112, 59]⟩] 9 (0, 0))) := by rw [← hW]; exact heap_alloc_new w _
  have HBW : Hid (Below w.heap.size w W) := by rw [← hW]; exact (Below.refl _ w).alloc (Nat.le_refl _) _
  have HWM : Hid (∀ (v : Value) (o : List UInt8) (wr : World), Ro W v o wr → wr.heap[w.heap.size]? = some (.cells #[.string ⟨#[38, 97, 109, 112, 59]⟩, .string ⟨#[38, 108, 116, 59]⟩, .string ⟨#[38, 103, 116, 59]⟩, .string ⟨#[38, 113, 117, 111, 116, 59]⟩, .string ⟨#[38, 110, 98, 115, 112, 59]⟩] 9 (0, 0))) := fun v o wr hR => (hR.bel.block _ (Array.getElem?_eq_some_iff.1 HWm.out).1).trans HWm.out
  have HFIN : Hid (∀ (v : Value) (o : List UInt8) (wr : World), Ro W v o wr → Below w.heap.size w wr) := fun v o wr hR => HBW.out.trans (hR.bel.mono HBW.out.size)
  clear hW
  go_enter Tryd.func20, Tryd.ntmps20
  go_wp2_with fail
  go_loopw [0, 3] (fun x v wr => ∃ (X : ByteArray) (o : List UInt8), x = .string X ∧ o.length + X.size ≤ 1048576 ∧ Hid (Ro W v o wr) ∧ Hid (o ++ frH X.data.toList = frH s.data.toList)) (fun x _ _ => szv x)
  case atStart => exact ⟨s, [], rfl, (by show 0 + _ ≤ _; have := HS.out; omega), H0.out, (by show _ = _; simp)⟩
  case round =>
    obtain ⟨X, o, rfl, hX, HR, HT⟩ := hrel
    by_cases h0 : X.size = 0
    · obtain rfl := By.empty_of h0
      have HC := Lib.hid (tok_conv HR.out.own)
      have HE : Hid (mk o = mk (frH s.data.toList)) := by
        show _ = _
        have := HT.out
        rw [show (⟨#[]⟩ : ByteArray).data.toList = [] from rfl, frH_nil, List.append_nil] at this
        rw [this]
      have HB := Lib.hid (HFIN.out _ _ _ HR.out)
      go_wp2_with (first | simp only [HC.out] | fail)
      go_ret
      exact ⟨by rw [← HE.out]; rfl, HB.out⟩
    · have hne := By.nonempty h0
      have hXs : 1 ≤ X.size := by omega
      have hXl : X.data.toList ≠ [] := fun e => by rw [Lib.size_eq, e] at h0; exact h0 rfl
      have CT := Lib.hid (rtag_any X wr (by omega))
      rcases tg_cases X.data.toList hXl with ⟨x, y, hcut, htg, hfr, hxl, htk⟩ | ⟨htg, hnc⟩
      · -- an element
        rw [htg] at CT
        have hxs : x.length + 1 ≤ X.size := by rw [Lib.size_eq]; exact hxl
        have HX1 : (X.extract 0 (x.length + 1)).data.toList = x ++ [62] := by rw [By.extract_cut, List.drop_zero]; exact htk
        have CF := Lib.hid (fun W => rFold_any (X.extract 0 (x.length + 1)) W (by rw [ByteArray.size_extract]; omega))
        rw [HX1] at CF
        have hT2 := HT.out
        rw [hfr, ← By.extract_drop] at hT2
        clear htg hcut hfr hxl htk HX1 hXl HT
        obtain ⟨F, hF⟩ : ∃ F : ByteArray, (⟨(foldL (x ++ [62])).toArray⟩ : ByteArray) = F := ⟨_, rfl⟩
        rw [hF] at CF
        by_cases hbr : foldL (x ++ [62]) = [60, 98, 114, 62] ∨ foldL (x ++ [62]) = [60, 98, 114, 47, 62]
        · rw [brk_yes hbr] at hT2
          have hFe : F = ⟨#[60, 98, 114, 62]⟩ ∨ F = ⟨#[60, 98, 114, 47, 62]⟩ := by
            rcases hbr with h | h
            · exact .inl (by rw [← hF, h])
            · exact .inr (by rw [← hF, h])
          have HT2 : Hid ((o ++ [10]) ++ frH (X.extract (x.length + 1) X.size).data.toList = frH s.data.toList) := by
            show _ = _
            rw [List.append_assoc]; exact hT2
          clear hbr hF hT2
          have n0 : (0 : Int) < ((x.length + 1 : Nat) : Int) := by omega
          have n1 : 1 ≤ x.length + 1 := by omega
          generalize x.length + 1 = n at CT CF HT2 hxs n0 n1
          rcases hFe with rfl | rfl
          · go_wp2_with fail
            refine CT.out.mono ?_
            rintro r w1 ⟨rfl, hb⟩
            have HR1 := Lib.hid (HR.out.below hb)
            clear hb
            go_wp2_with fail
            refine (CF.out _).mono ?_
            rintro r w2 ⟨rfl, hb⟩
            have HR2 := Lib.hid (HR1.out.below hb)
            clear hb
            go_wp2_with (at_builtin; refine wpList_append_lies _ rfl _ _ 39 rfl W.heap.size 5 i0 _ 1 1 Tryd.underlying39 hi0 hz0 hz1 hz2 rfl (by decide) _ o.length (byteV o) rfl (World.ownsRow.alloc HR2.out.own _) ⟨w2.heap.size, 0, none⟩ 1 1 [.int .u8 10] rfl rfl (World.news_of_block (cs := #[.int .u8 10]) (t := 5) (fr := (0, 0)) (heap_alloc_new w2 _)) (by simp [Value.oneCell']) (by decide) (by unfold maxLen; omega) (by omega) (by have := HR2.out.bel.size; simp; omega) _ rfl ?_; intro g cap w3 hown hgrow hat hlt3)
            have HR3 := Lib.hid (HR2.out.next (ys := [10]) (n := o.length + 1) rfl hown (HR2.out.bel.alloc HR2.out.bel.size _) hgrow)
            clear hown hgrow hat hlt3
            go_wp2_with fail
            go_roundw
            case rel => exact ⟨X.extract n X.size, _, rfl, by rw [ByteArray.size_extract, List.length_append, List.length_singleton]; omega, HR3.out, HT2.out⟩
            case measure => rw [szv_str, szv_str, ByteArray.size_extract]; omega
          · go_wp2_with fail
            refine CT.out.mono ?_
            rintro r w1 ⟨rfl, hb⟩
            have HR1 := Lib.hid (HR.out.below hb)
            clear hb
            go_wp2_with fail
            refine (CF.out _).mono ?_
            rintro r w2 ⟨rfl, hb⟩
            have HR2 := Lib.hid (HR1.out.below hb)
            clear hb
            go_wp2_with (at_builtin; refine wpList_append_lies _ rfl _ _ 39 rfl W.heap.size 5 i0 _ 1 1 Tryd.underlying39 hi0 hz0 hz1 hz2 rfl (by decide) _ o.length (byteV o) rfl (World.ownsRow.alloc HR2.out.own _) ⟨w2.heap.size, 0, none⟩ 1 1 [.int .u8 10] rfl rfl (World.news_of_block (cs := #[.int .u8 10]) (t := 5) (fr := (0, 0)) (heap_alloc_new w2 _)) (by simp [Value.oneCell']) (by decide) (by unfold maxLen; omega) (by omega) (by have := HR2.out.bel.size; simp; omega) _ rfl ?_; intro g cap w3 hown hgrow hat hlt3)
            have HR3 := Lib.hid (HR2.out.next (ys := [10]) (n := o.length + 1) rfl hown (HR2.out.bel.alloc HR2.out.bel.size _) hgrow)
            clear hown hgrow hat hlt3
            go_wp2_with fail
            go_roundw
            case rel => exact ⟨X.extract n X.size, _, rfl, by rw [ByteArray.size_extract, List.length_append, List.length_singleton]; omega, HR3.out, HT2.out⟩
            case measure => rw [szv_str, szv_str, ByteArray.size_extract]; omega
        · have h1 : ¬ foldL (x ++ [62]) = [60, 98, 114, 62] := fun e => hbr (.inl e)
          have h2 : ¬ foldL (x ++ [62]) = [60, 98, 114, 47, 62] := fun e => hbr (.inr e)
          rw [brk_no h1 h2, List.nil_append] at hT2
          obtain ⟨m0, k0⟩ := mk_ne h1
          obtain ⟨m1, k1⟩ := mk_ne h2
          rw [show mk (foldL (x ++ [62])) = F from hF] at m0 k0 m1 k1
          have HT2 : Hid (o ++ frH (X.extract (x.length + 1) X.size).data.toList = frH s.data.toList) := hT2
          clear hbr hF hT2 h1 h2
          have n0 : (0 : Int) < ((x.length + 1 : Nat) : Int) := by omega
          have n1 : 1 ≤ x.length + 1 := by omega
          generalize x.length + 1 = n at CT CF HT2 hxs n0 n1
          go_wp2_with fail
          refine CT.out.mono ?_
          rintro r w1 ⟨rfl, hb⟩
          have HR1 := Lib.hid (HR.out.below hb)
          clear hb
          go_wp2_with fail
          refine (CF.out _).mono ?_
          rintro r w2 ⟨rfl, hb⟩
          have HR2 := Lib.hid (HR1.out.below hb)
          clear hb
          go_wp2_with fail
          go_roundw
          case rel => exact ⟨X.extract n X.size, _, rfl, by rw [ByteArray.size_extract]; omega, HR2.out, HT2.out⟩
          case measure => rw [szv_str, szv_str, ByteArray.size_extract]; omega
      · rw [htg] at CT
        have HMC := Lib.hid (fun (v : Value) (o : List UInt8) (W' : World) (hR : Ro W v o W') (i : Nat) (hi : i < 5) => mk_cell (HWM.out v o W' hR) i hi)
        have hST : ST.size = 5 := rfl
        have hSTe : (⟨#[38, 60, 62, 34, 32]⟩ : ByteArray) = ST := rfl
        rcases ent_marks X with ⟨hent, hnp⟩ | ⟨j, hj, hent, hj5, hnp, hyp⟩
        · -- no mark
          have HNP := Lib.hid hnp
          obtain ⟨b, r, hbr⟩ : ∃ b r, X.data.toList = b :: r := by
            cases e : X.data.toList with
            | nil => exact absurd e hXl
            | cons b r => exact ⟨b, r, rfl⟩
          have hfr : frH X.data.toList = b :: frH (X.extract 1 X.size).data.toList := by
            have hp : piece X.data.toList = (1, [b]) := by
              have := hnc b r hbr
              rw [hbr] at this hent ⊢
              exact piece_else this hent
            rw [frH_step hXl, hp, By.extract_drop]; rfl
          have HT2 : Hid ((o ++ [b]) ++ frH (X.extract 1 X.size).data.toList = frH s.data.toList) := by
            show _ = _
            have := HT.out
            rw [hfr] at this
            rw [List.append_assoc]; exact this
          have hb0 : (X[0]'hXs).toNat = b.toNat := by
            rw [By.byte_nb X 0 hXs, hbr]; rfl
          clear htg hnc hent hnp hbr hfr hXl HT
          go_wp2_with fail
          refine CT.out.mono ?_
          rintro r1 w1 ⟨rfl, hb⟩
          have HR1 := Lib.hid (HR.out.below hb)
          clear hb HR
          go_wp2_with fail
          go_loopw [0, 3, 8, 9] (fun x v f i wx => ∃ k : Nat, x = .string X ∧ v = u3 ∧ f = .bool false ∧ i = .int .i64 k ∧ k ≤ 5 ∧ Hid (Ro W u3 o wx)) (fun _ _ _ i _ => 5 - (RowKit.intOf i).toNat)
          case atStart => exact ⟨0, rfl, rfl, rfl, rfl, by omega, HR1.out⟩
          case round =>
            obtain ⟨k, rfl, rfl, rfl, rfl, hk, HRx⟩ := hrel
            by_cases hk5 : k < 5
            · have hmc := HMC.out _ _ _ HRx.out k hk5
              have hnk := HNP.out k hk5
              have hm6 := mk_small k hk5
              generalize MK k = M at hmc hnk hm6
              rcases hnk with hsh | ⟨hlo, hneq⟩
              · have f1 : decide ((M.size : Int) ≤ (X.size : Int)) = false := by rw [decide_eq_false_iff_not]; omega
                have f3 : decide (M.size ≤ X.size) = false := by rw [decide_eq_false_iff_not]; omega
                have f4 : decide ((X.size : Int) < (M.size : Int)) = true := by rw [decide_eq_true_iff]; omega
                have f5 : (X.size : Int) < (M.size : Int) := by omega
                clear hsh
                go_wp2_with fail
                go_quiet (fail)
                go_wp2_with fail
                exact ⟨⟨k + 1, rfl, rfl, rfl, by go_num, by omega, ⟨HRx.out.own, below_drewN HRx.out.bel _⟩⟩, by simp [RowKit.intOf]; omega⟩
              · have f1 : decide ((M.size : Int) ≤ (X.size : Int)) = true := by rw [decide_eq_true_iff]; omega
                have f2 : (M.size : Int) ≤ (X.size : Int) := by omega
                clear hlo
                go_wp2_with fail
                go_quiet (fail)
                go_wp2_with fail
                exact ⟨⟨k + 1, rfl, rfl, rfl, by go_num, by omega, ⟨HRx.out.own, below_drewN HRx.out.bel _⟩⟩, by simp [RowKit.intOf]; omega⟩
            · obtain rfl : k = 5 := by omega
              go_wp2_with (at_builtin; refine wpList_append_lies _ rfl _ _ 39 rfl W.heap.size 5 i0 _ 1 1 Tryd.underlying39 hi0 hz0 hz1 hz2 rfl (by decide) _ o.length (byteV o) rfl (World.ownsRow.alloc HRx.out.own _) ⟨wr.heap.size, 0, none⟩ 1 1 [.int .u8 (b.toNat : Int)] rfl rfl (World.news_of_block (cs := #[.int .u8 (b.toNat : Int)]) (t := 5) (fr := (0, 0)) (heap_alloc_new wr _)) (by simp [Value.oneCell']) (by decide) (by unfold maxLen; omega) (by omega) (by have := HRx.out.bel.size; simp; omega) _ rfl ?_; intro g cap w3 hown hgrow hat hlt3)
              have HR3 := Lib.hid (HRx.out.next (ys := [b]) (n := o.length + 1) rfl hown (HRx.out.bel.alloc HRx.out.bel.size _) hgrow)
              clear hown hgrow hat hlt3
              go_wp2_with fail
              go_roundw
              case rel => (repeat apply Exists.intro); exact ⟨⟨X.extract 1 X.size, o ++ [b], rfl, by rw [ByteArray.size_extract, List.length_append, List.length_singleton]; omega, HR3.out, HT2.out⟩, rfl⟩
              case measure => show szv (.string (X.extract 1 X.size)) < szv (.string X); rw [szv_str, szv_str, ByteArray.size_extract]; omega
        · -- the mark j
          have HNP := Lib.hid hnp
          have HYP := Lib.hid hyp
          have hjm := mk_small j hj5
          have hfr : frH X.data.toList = ST[j]'hj :: frH (X.extract (MK j).size X.size).data.toList := by
            rw [By.extract_drop]; exact frH_ent hXl hent
          have HT2 : Hid ((o ++ [ST[j]'hj]) ++ frH (X.extract (MK j).size X.size).data.toList = frH s.data.toList) := by
            show _ = _
            have := HT.out
            rw [hfr] at this
            rw [List.append_assoc]; exact this
          have hjs : (MK j).size ≤ X.size := hyp.1
          obtain ⟨a, ha⟩ : ∃ a, ST[j]'hj = a := ⟨_, rfl⟩
          have han : (ST[j]'hj).toNat = a.toNat := by rw [ha]
          rw [ha] at HT2
          clear htg hnc hent hnp hfr hXl HT ha hyp
          go_wp2_with fail
          refine CT.out.mono ?_
          rintro r1 w1 ⟨rfl, hb⟩
          have HR1 := Lib.hid (HR.out.below hb)
          clear hb HR
          go_wp2_with fail
          go_loopw [0, 3, 8, 9] (fun x v f i wx => (∃ k : Nat, x = .string X ∧ v = u3 ∧ f = .bool false ∧ i = .int .i64 k ∧ k ≤ j ∧ Hid (Ro W u3 o wx)) ∨ (x = .string (X.extract (MK j).size X.size) ∧ f = .bool true ∧ i = .int .i64 ((j + 1 : Nat) : Int) ∧ Hid (Ro W v (o ++ [a]) wx))) (fun _ _ _ i _ => 6 - (RowKit.intOf i).toNat)
          case atStart => exact .inl ⟨0, rfl, rfl, rfl, rfl, Nat.zero_le _, HR1.out⟩
          case round =>
            rcases hrel with ⟨k, rfl, rfl, rfl, rfl, hk, HRx⟩ | ⟨rfl, rfl, rfl, HRx⟩
            · have hk5 : k < 5 := by omega
              have hmc := HMC.out _ _ _ HRx.out k hk5
              have hm6 := mk_small k hk5
              by_cases hkj : k < j
              · have hnk := HNP.out k hkj
                generalize MK k = M at hmc hnk hm6
                rcases hnk with hsh | ⟨hlo, hneq⟩
                · have f1 : decide ((M.size : Int) ≤ (X.size : Int)) = false := by rw [decide_eq_false_iff_not]; omega
                  have f3 : decide (M.size ≤ X.size) = false := by rw [decide_eq_false_iff_not]; omega
                  have f4 : decide ((X.size : Int) < (M.size : Int)) = true := by rw [decide_eq_true_iff]; omega
                  have f5 : (X.size : Int) < (M.size : Int) := by omega
                  clear hsh
                  go_wp2_with fail
                  go_quiet (fail)
                  go_wp2_with fail
                  exact ⟨.inl ⟨k + 1, rfl, rfl, rfl, by go_num, by omega, ⟨HRx.out.own, below_drewN HRx.out.bel _⟩⟩, by simp [RowKit.intOf]; omega⟩
                · have f1 : decide ((M.size : Int) ≤ (X.size : Int)) = true := by rw [decide_eq_true_iff]; omega
                  have f2 : (M.size : Int) ≤ (X.size : Int) := by omega
                  clear hlo
                  go_wp2_with fail
                  go_quiet (fail)
                  go_wp2_with fail
                  exact ⟨.inl ⟨k + 1, rfl, rfl, rfl, by go_num, by omega, ⟨HRx.out.own, below_drewN HRx.out.bel _⟩⟩, by simp [RowKit.intOf]; omega⟩
              · obtain rfl : k = j := by omega
                obtain ⟨hlo, heq⟩ := HYP.out
                have HMe : Hid (X.extract (MK k).size X.size = X.extract (MK k).size X.size) := rfl
                obtain ⟨M, hM⟩ : ∃ M, M = MK k := ⟨_, rfl⟩
                have HMN := Lib.hid hM
                rw [← hM] at hmc hm6 hlo heq hjm hjs
                rw [show X.extract (MK k).size X.size = X.extract M.size X.size by rw [← hM]]
                clear hM HMe
                have f1 : decide ((M.size : Int) ≤ (X.size : Int)) = true := by rw [decide_eq_true_iff]; omega
                have f2 : (M.size : Int) ≤ (X.size : Int) := by omega
                clear hlo
                go_wp2_with fail
                go_quiet (fail)
                have HRq : Hid (Ro W u3 o (wr.drewN nq)) := ⟨HRx.out.own, below_drewN HRx.out.bel _⟩
                generalize wr.drewN nq = w5 at HRq ⊢
                go_wp2_with (at_builtin; refine wpList_append_lies _ rfl _ _ 39 rfl W.heap.size 5 i0 _ 1 1 Tryd.underlying39 hi0 hz0 hz1 hz2 rfl (by decide) _ o.length (byteV o) rfl (World.ownsRow.alloc HRq.out.own _) ⟨w5.heap.size, 0, none⟩ 1 1 [.int .u8 (a.toNat : Int)] rfl rfl (World.news_of_block (cs := #[.int .u8 (a.toNat : Int)]) (t := 5) (fr := (0, 0)) (heap_alloc_new w5 _)) (by simp [Value.oneCell']) (by decide) (by unfold maxLen; omega) (by omega) (by have := HRq.out.bel.size; simp; omega) _ rfl ?_; intro g cap w3 hown hgrow hat hlt3; have HR3 := Lib.hid (HRq.out.next (ys := [a]) (n := o.length + 1) rfl hown (HRq.out.bel.alloc HRq.out.bel.size _) hgrow); have hmc3 := HMC.out _ _ _ HR3.out k hk5; rw [← HMN.out] at hmc3; clear hown hgrow hat hlt3)
                exact ⟨.inr ⟨rfl, rfl, by go_num, HR3.out⟩, by simp [RowKit.intOf]; omega⟩
            · have hb5 : (j + 1 : Nat) ≤ 5 := by omega
              have hlt3 : (X.extract (MK j).size X.size).size ≤ X.size - (MK j).size := by rw [ByteArray.size_extract]; omega
              generalize X.extract (MK j).size X.size = Y at HRx HT2 hlt3 ⊢
              by_cases hb6 : j + 1 < 5
              · have q1 : ((j : Int) + 1) < 5 := by omega
                go_wp2_with fail
                go_roundw
                case rel => (repeat apply Exists.intro); exact ⟨⟨Y, o ++ [a], rfl, by rw [List.length_append, List.length_singleton]; omega, HRx.out, HT2.out⟩, rfl⟩
                case measure => show szv (.string Y) < szv (.string X); rw [szv_str, szv_str]; omega
              have q1 : ¬ ((j : Int) + 1) < 5 := by omega
              go_wp2_with fail
              go_roundw
              case rel => (repeat apply Exists.intro); exact ⟨⟨Y, o ++ [a], rfl, by rw [List.length_append, List.length_singleton]; omega, HRx.out, HT2.out⟩, rfl⟩
              case measure => show szv (.string Y) < szv (.string X); rw [szv_str, szv_str]; omega
end Go.Proofs.YtbadoidjdghklaaDoor
