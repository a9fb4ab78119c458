/- The document's All on a text that is made of tokens, one behind the other, told of by what the document's token answers to each of them. Conditions: those of the structure Plan; the text has at most 1048576 bytes. -/
import Derived.Test.YtolnpfcncmcacaaGreatDoorMB
import Derived.Deep.DeepCutAuto
import Derived.IntWalk
namespace Go.Proofs.YtolnpfcncmcacaaGreatDoor
open Go.RowKit Go.Lib Go.Shelf Tg Sn

/-- What a State of the document holds. -/
structure Sv where
  o : Option Addr
  n : Nat
  c : Nat
  sz : Int
  f : Bool
  e : Bool
  a : Option Addr
  m : Nat
  d : Nat
def Sv.cells (s : Sv) : Array Value := #[.slice s.o s.n s.c, .int .i64 s.sz, .bool s.f, .bool s.e, .slice s.a s.m s.d]
def Sv.val (s : Sv) : Value := .agg s.cells
/-- The quote that is open behind a byte. -/
def qS (q c : Nat) : Nat := if q = 0 then (if c = 39 ∨ c = 34 then c else 0) else if c = q then 0 else q
def qA (t : B8) (k : Nat) : Nat := (t.take k).foldl (fun q c => qS q c.toNat) 0
theorem qA_next {t : B8} {k : Nat} (h : k < t.length) : qA t (k + 1) = qS (qA t k) (By.nb t k) := by
  unfold qA
  rw [List.take_succ_eq_append_getElem h, List.foldl_append]
  show qS _ t[k].toNat = _
  unfold By.nb
  rw [List.getD_eq_getElem?_getD, List.getElem?_eq_getElem h]; rfl
def off (ts : Nat → B8) : Nat → Nat
  | 0 => 0
  | j + 1 => off ts j + (ts j).length
def Kpb (B : Nat) (W W' : World) : Prop := W.heap.size ≤ W'.heap.size ∧ ∀ b, B ≤ b → b < W.heap.size → W'.heap[b]? = W.heap[b]?
structure IsTag (t : B8) : Prop where
  len : t.length ≤ 16384
  two : 1 < t.length
  hd : By.nb t 0 = 60
  mid : ∀ k, k + 1 < t.length → qA t k = 0 → By.nb t k ≠ 62
  q : qA t (t.length - 1) = 0
  last : By.nb t (t.length - 1) = 62
structure IsChr (t : B8) : Prop where
  ne : 0 < t.length
  no : ∀ k, k < t.length → By.nb t k ≠ 60
structure Plan (b : ByteArray) (K : Nat) (ts : Nat → B8) (S : Nat → Nat → Sv → World → Prop) (F : Nat → Sv → World → Prop) : Prop where
  bytes : ∀ j k, j < K → k < (ts j).length → By.nb b.data.toList (off ts j + k) = By.nb (ts j) k
  fits : ∀ j, j < K → off ts (j + 1) ≤ b.size
  size : b.size = off ts K
  ext : ∀ j, j < K → b.extract (off ts j) (off ts j + (ts j).length) = Sn.mk (ts j)
  kind : ∀ j, j < K → IsTag (ts j) ∨ (IsChr (ts j) ∧ j + 1 < K ∧ By.nb (ts (j + 1)) 0 = 60 ∧ 0 < (ts (j + 1)).length)
  keepS : ∀ B j s W W', S B j s W → Kpb B W W' → S B j s W'
  keepF : ∀ B s W W', F B s W → Kpb B W W' → F B s W'
  e : ∀ B j s W, S B j s W → s.e = false
  step : ∀ B j s W, j < K → S B j s W → B ≤ W.heap.size → (ts j).length ≤ 16384 → Calls Tryz.prog 29 #[s.val, .string (Sn.mk (ts j))] W fun r W' => ∃ s', r = .returned s'.val ∧ (s'.e = false ∧ S B (j + 1) s' W' ∨ s'.e = true ∧ F B s' W') ∧ Below B W W'
  big : ∀ B j s W, j < K → S B j s W → B ≤ W.heap.size → 16384 < (ts j).length → Calls Tryz.prog 28 #[s.val, .int .i64 62] W fun r W' => ∃ s', r = .returned s'.val ∧ F B s' W' ∧ Below B W W'
  done : ∀ B s W, S B K s W → F B s W
theorem Plan.enter {b : ByteArray} {K : Nat} {ts : Nat → B8} {S : Nat → Nat → Sv → World → Prop} {F : Nat → Sv → World → Prop} (P : Plan b K ts S F) {j : Nat} (hj : j ≤ K) :
    j = K ∧ 0 = 0 ∨ j < K ∧ 0 < (ts j).length ∧ (IsTag (ts j) ∧ 0 = qA (ts j) 0 ∨ IsChr (ts j) ∧ 0 = 0 ∧ 0 ≤ 16384) := by
  by_cases h : j = K
  · exact .inl ⟨h, rfl⟩
  · have hlt : j < K := by omega
    rcases P.kind j hlt with h1 | ⟨h1, _⟩
    · exact .inr ⟨hlt, by have := h1.two; omega, .inl ⟨h1, rfl⟩⟩
    · exact .inr ⟨hlt, h1.ne, .inr ⟨h1, rfl, Nat.zero_le _⟩⟩
def Z5 : Array Value := #[.slice none 0 0, .int .i64 0, .bool false, .bool false, .slice none 0 0]
/-- The boxes of All: the state and the answer. -/
structure Aw (w : World) (s : Sv) (W : World) : Prop where
  bel : Below w.heap.size w W
  box : W.heap[w.heap.size + 1]? = some (.cells #[.slice s.o s.n s.c, .int .i64 s.sz, .bool s.f, .bool s.e, .slice s.a s.m s.d] 31 (0, 0))
  ret : W.heap[w.heap.size]? = some (.cells #[.slice none 0 0, .int .i64 0, .bool false, .bool false, .slice none 0 0] 31 (0, 0))
theorem Aw.big {w W : World} {s : Sv} (h : Aw w s W) : w.heap.size + 2 ≤ W.heap.size := (Array.getElem?_eq_some_iff.1 h.box).1
theorem Aw.st {w W W' : World} {s : Sv} (h : Aw w s W) (hb : Below (w.heap.size + 2) W W') : Aw w s W' :=
  ⟨h.bel.trans (hb.mono (by omega)), (hb.block _ (by omega)).trans h.box, (hb.block _ (by omega)).trans h.ret⟩
theorem Aw.dr {w W : World} {s : Sv} (h : Aw w s W) : Aw w s W.drew := ⟨h.bel.drew, h.box, h.ret⟩
def Put5 (W : World) (N : Nat) (v0 v1 v2 v3 v4 : Value) : World := ((((W.setCell ⟨N, 0, none⟩ v0).setCell ⟨N, 1, none⟩ v1).setCell ⟨N, 2, none⟩ v2).setCell ⟨N, 3, none⟩ v3).setCell ⟨N, 4, none⟩ v4
theorem put5_kpb {W : World} {B N : Nat} (h : N < B) (v0 v1 v2 v3 v4 : Value) : Kpb B W (Put5 W N v0 v1 v2 v3 v4) := by
  refine ⟨by simp [Put5, World.setCell], fun b hb _ => ?_⟩
  have : N ≠ b := by omega
  simp [Put5, World.setCell, Array.getElem?_modify, this]
theorem Aw.put {w W : World} {s : Sv} (h : Aw w s W) (s' : Sv) : Aw w s' (Put5 W (w.heap.size + 1) (.slice s'.o s'.n s'.c) (.int .i64 s'.sz) (.bool s'.f) (.bool s'.e) (.slice s'.a s'.m s'.d)) := by
  have g : w.heap.size ≤ w.heap.size + 1 := Nat.le_succ _
  refine ⟨((((h.bel.setCell g _).setCell g _).setCell g _).setCell g _).setCell g _, ?_, ?_⟩
  · simp [Put5, World.setCell, Array.getElem?_modify, h.box]
  · simp [Put5, World.setCell, Array.getElem?_modify, h.ret]
theorem kpb_below {B : Nat} {W W' : World} (h : Below W.heap.size W W') : Kpb B W W' := ⟨h.size, fun b _ hb => h.block b hb⟩
set_option maxRecDepth 100000 in
set_option maxHeartbeats 8000000 in
theorem all_plan {b : ByteArray} {K : Nat} {ts : Nat → B8} {S : Nat → Nat → Sv → World → Prop} {F : Nat → Sv → World → Prop} (P : Plan b K ts S F) (w : World) (hb : b.size ≤ 1048576)
    (h0 : ∀ W, w.heap.size + 2 ≤ W.heap.size → S (w.heap.size + 2) 0 ⟨none, 0, 0, 0, true, false, none, 0, 0⟩ W) :
    Calls Tryz.prog 10 #[.string b] w fun r w' => ∃ s : Sv, r = .returned s.val ∧ F (w.heap.size + 2) s w' ∧ Below w.heap.size w w' := by
  have HP := Lib.hid P
  have HA0 : Hid (Aw w ⟨none, 0, 0, 0, true, false, none, 0, 0⟩ ((w.alloc (.cells Z5 31)).alloc (.cells #[.slice none 0 0, .int .i64 0, .bool true, .bool false, .slice none 0 0] 31))) := by
    refine ⟨((Below.refl _ w).alloc (Nat.le_refl _) _).alloc (by simp) _, ?_, ?_⟩
    · have := box_new (w.alloc (.cells Z5 31)) #[.slice none 0 0, .int .i64 0, .bool true, .bool false, .slice none 0 0] 31
      rw [show (w.alloc (.cells Z5 31)).heap.size = w.heap.size + 1 by simp] at this
      exact this
    · exact (Below.heap_alloc _ _ _ (by simp)).trans (box_new w _ _)
  have HS0 := Lib.hid (h0 _ HA0.out.big)
  clear P h0
  go_enter Tryz.func10, Tryz.ntmps10
  go_wp2_with fail
  go_loopw [4, 5, 6] (fun fr q i wr => ∃ (O qq i0 : Nat) (s : Sv), fr = .int .i64 O ∧ q = .int .u8 qq ∧ i = .int .i64 i0 ∧ i0 ≤ b.size ∧ Hid (Aw w s wr) ∧
      (s.e = true ∧ Hid (F (w.heap.size + 2) s wr) ∨ ∃ j k : Nat, O = off ts j ∧ i0 = O + k ∧ Hid (S (w.heap.size + 2) j s wr) ∧
        (j = K ∧ k = 0 ∨ j < K ∧ k < (ts j).length ∧ (IsTag (ts j) ∧ qq = qA (ts j) k ∨ IsChr (ts j) ∧ qq = 0 ∧ k ≤ 16384)))) (fun _ _ i _ => b.size - (RowKit.intOf i).toNat)
  case atStart => exact ⟨0, 0, 0, _, rfl, rfl, rfl, Nat.zero_le _, HA0.out, .inr ⟨0, 0, rfl, rfl, HS0.out, HP.out.enter (Nat.zero_le _)⟩⟩
  case round =>
    obtain ⟨O, qq, i0, s, rfl, rfl, rfl, hi, HA, hcase⟩ := hrel
    clear HA0 HS0
    obtain ⟨o, n, c, sz, f, e, a, m, d⟩ := s
    have hW : w.heap.size + 2 ≤ wr.heap.size := HA.out.big
    obtain ⟨x0, x1, x2, x3, x4⟩ := bx5 HA.out.box
    obtain ⟨y0, y1, y2, y3, y4⟩ := bx5 HA.out.ret
    have fx := fun i => Lib.frozen_of_heap HA.out.box i
    have fy := fun i => Lib.frozen_of_heap HA.out.ret i
    dsimp only at x0 x1 x2 x3 x4
    have lx : w.heap.size + 1 < wr.heap.size := by omega
    have ly : w.heap.size < wr.heap.size := by omega
    rcases hcase with ⟨he, HF⟩ | ⟨j, k, hO, rfl, HS, hk⟩
    · replace he : e = true := he
      subst he
      by_cases hlt : i0 < b.size
      · go_wp2_with fail
        exact bodyPost_ret (v := .agg #[.slice o n c, .int .i64 sz, .bool f, .bool true, .slice a m d]) (by simp [results, Tryz.results10, go_sem, y0, y1, y2, y3, y4]) rfl
          ⟨⟨o, n, c, sz, f, true, a, m, d⟩, rfl, HP.out.keepF _ _ _ _ HF.out (put5_kpb (by omega) _ _ _ _ _), ((((HA.out.bel.setCell (Nat.le_refl _) _).setCell (Nat.le_refl _) _).setCell (Nat.le_refl _) _).setCell (Nat.le_refl _) _).setCell (Nat.le_refl _) _⟩
      · go_wp2_with fail
        exact bodyPost_ret (v := .agg #[.slice o n c, .int .i64 sz, .bool f, .bool true, .slice a m d]) (by simp [results, Tryz.results10, go_sem, y0, y1, y2, y3, y4]) rfl
          ⟨⟨o, n, c, sz, f, true, a, m, d⟩, rfl, HP.out.keepF _ _ _ _ HF.out (put5_kpb (by omega) _ _ _ _ _), ((((HA.out.bel.setCell (Nat.le_refl _) _).setCell (Nat.le_refl _) _).setCell (Nat.le_refl _) _).setCell (Nat.le_refl _) _).setCell (Nat.le_refl _) _⟩
    · have he : e = false := HP.out.e _ _ _ _ HS.out
      subst he
      rcases hk with ⟨rfl, rfl⟩ | ⟨hj, hkl, hkind⟩
      · have HF : Hid (F (w.heap.size + 2) ⟨o, n, c, sz, f, false, a, m, d⟩ wr) := HP.out.done _ _ _ HS.out
        have hz := HP.out.size
        have hlt : ¬ O + 0 < b.size := by omega
        go_wp2_with fail
        exact bodyPost_ret (v := .agg #[.slice o n c, .int .i64 sz, .bool f, .bool false, .slice a m d]) (by simp [results, Tryz.results10, go_sem, y0, y1, y2, y3, y4]) rfl
          ⟨⟨o, n, c, sz, f, false, a, m, d⟩, rfl, HP.out.keepF _ _ _ _ HF.out (put5_kpb (by omega) _ _ _ _ _), ((((HA.out.bel.setCell (Nat.le_refl _) _).setCell (Nat.le_refl _) _).setCell (Nat.le_refl _) _).setCell (Nat.le_refl _) _).setCell (Nat.le_refl _) _⟩
      · have hfit : O + (ts j).length ≤ b.size := hO ▸ HP.out.fits j hj
        have hlt : O + k < b.size := by omega
        have hltO : O < b.size := by omega
        have hbk := (By.byte_nb b (O + k) hlt).trans (hO ▸ HP.out.bytes j k hj hkl)
        have hbO := (By.byte_nb b O hltO).trans (hO ▸ HP.out.bytes j 0 hj (by omega))
        have HNX : Hid (∀ i, i + 1 = (ts j).length → off ts (j + 1) = O + i + 1) := fun i h => by rw [hO]; show off ts j + (ts j).length = _; omega
        have HEX : Hid (k + 1 = (ts j).length → b.extract O (O + k + 1) = Sn.mk (ts j)) := fun h => by rw [← HP.out.ext j hj, ← h, hO]; rfl
        have HO := Lib.hid hO
        clear hO
        rcases hkind with ⟨hT, hq⟩ | ⟨hC, rfl, hk16⟩
        · have hlen := hT.len
          rw [hT.hd] at hbO
          have HTG := Lib.hid hT
          have n60 : (((60 : Nat) : Int) != 60) = false := by decide
          have HQN : Hid (qA (ts j) (k + 1) = qS qq (By.nb (ts j) k)) := by rw [hq]; exact qA_next hkl
          have HQL := Lib.hid (fun (h : k + 1 = (ts j).length) => (show qq = 0 by rw [hq]; have := hT.q; rwa [show (ts j).length - 1 = k by omega] at this))
          have HYL := Lib.hid (fun (h : k + 1 = (ts j).length) => (show By.nb (ts j) k = 62 by have := hT.last; rwa [show (ts j).length - 1 = k by omega] at this))
          have HYM := Lib.hid (fun (h : k + 1 < (ts j).length) (h0 : qq = 0) => hT.mid k h (by rw [← hq]; exact h0))
          clear hT hq
          generalize By.nb (ts j) k = y at hbk HQN HYL HYM
          by_cases hq0 : qq = 0
          · subst hq0
            have q0 : (((0 : Nat) : Int) != 0) = false := by decide
            by_cases hkl1 : k + 1 = (ts j).length
            · obtain rfl : y = 62 := HYL.out hkl1
              have b39 : (((62 : Nat) : Int) == 39) = false := by decide
              have b34 : (((62 : Nat) : Int) == 34) = false := by decide
              have b62 : (((62 : Nat) : Int) == 62) = true := by decide
              have HTK := HP.out.step _ j _ wr.drew hj (HP.out.keepS _ _ _ _ _ HS.out (kpb_below (Below.refl _ wr).drew)) hW (by omega)
              rw [← HEX.out hkl1] at HTK
              have HTK := Lib.hid HTK
              have HN1 := Lib.hid (HNX.out k hkl1)
              clear HEX HNX HQL HYL HYM HQN HTG HS
              go_upto_region 20 with fail
              have hwr : IntKind.i64.wrap ((O : Int) + (k : Int) + 1) = (O : Int) + (k : Int) + 1 := IntWalk.i64_in _ ⟨by omega, by omega⟩
              have hs0 : (0 : Int) ≤ (O : Int) := by omega
              have hs1 : (O : Int) ≤ (O : Int) + (k : Int) + 1 := by omega
              have hs2 : (O : Int) + (k : Int) + 1 ≤ (b.size : Int) := by omega
              have hs3 : (0 : Int) ≤ (O : Int) + (k : Int) + 1 := by omega
              have ht : ((O : Int) + (k : Int) + 1).toNat = O + k + 1 := by omega
              have ht2 : ((O : Int)).toNat = O := by omega
              go_region_with ((go_at_call 29; refine HTK.out.mono ?_; rintro r w1 ⟨⟨o', n', c', sz', f', e', a', m', d'⟩, hr, hst, hB⟩; have hr : r = .returned (.agg #[.slice o' n' c', .int .i64 sz', .bool f', .bool e', .slice a' m' d']) := hr; subst hr; have HA1 := Lib.hid (HA.out.dr.st hB); have HST := Lib.hid hst; clear hst hB; obtain ⟨x0, x1, x2, x3, x4⟩ := bx5 HA1.out.box; have fx := fun i => Lib.frozen_of_heap HA1.out.box i; have lx : w.heap.size + 1 < w1.heap.size := heap_lt HA1.out.box))
              have HA2 := Lib.hid (HA1.out.put ⟨o', n', c', sz', f', e', a', m', d'⟩)
              have HS2 := Lib.hid (HST.out.imp (fun h => And.intro h.1 (HP.out.keepS _ _ _ _ _ h.2 (put5_kpb (B := w.heap.size + 2) (N := w.heap.size + 1) (by omega) (.slice o' n' c') (.int .i64 sz') (.bool f') (.bool e') (.slice a' m' d')))) (fun h => And.intro h.1 (HP.out.keepF _ _ _ _ h.2 (put5_kpb (B := w.heap.size + 2) (N := w.heap.size + 1) (by omega) (.slice o' n' c') (.int .i64 sz') (.bool f') (.bool e') (.slice a' m' d')))))
              clear x0 x1 x2 x3 x4 y0 y1 y2 y3 y4 fx fy lx ly HST HA1 HA HTK
              go_wp2_with fail
              go_roundw
              case rel => exact ⟨O + k + 1, 0, O + k + 1, ⟨o', n', c', sz', f', e', a', m', d'⟩, by go_num, rfl, by go_num, by omega, HA2.out, HS2.out.elim (fun h => .inr ⟨j + 1, 0, HN1.out.symm, rfl, h.2, HP.out.enter (by omega)⟩) (fun h => .inl h)⟩
              case measure => simp [RowKit.intOf]; omega
            · have hk1 : k + 1 < (ts j).length := by omega
              have h62 := HYM.out hk1 rfl
              have b62 : ((y : Int) == 62) = false := by rw [beq_eq_false_iff_ne]; omega
              by_cases h39 : y = 39
              · subst h39
                have b39 : (((39 : Nat) : Int) == 39) = true := by decide
                have HQ2 : Hid (39 = qA (ts j) (k + 1)) := by show _ = _; rw [HQN.out]; decide
                clear HEX HNX HQL HYL HYM HQN h62
                go_wp2_with fail
                go_roundw
                case rel => exact ⟨O, 39, O + k + 1, _, rfl, rfl, by go_num, by omega, HA.out, .inr ⟨j, k + 1, HO.out, rfl, HS.out, .inr ⟨hj, hk1, .inl ⟨HTG.out, HQ2.out⟩⟩⟩⟩
                case measure => simp [RowKit.intOf]; omega
              · have b39 : ((y : Int) == 39) = false := by rw [beq_eq_false_iff_ne]; omega
                by_cases h34 : y = 34
                · subst h34
                  have b34 : (((34 : Nat) : Int) == 34) = true := by decide
                  have HQ2 : Hid (34 = qA (ts j) (k + 1)) := by show _ = _; rw [HQN.out]; decide
                  clear HEX HNX HQL HYL HYM HQN h62 h39
                  go_wp2_with fail
                  go_roundw
                  case rel => exact ⟨O, 34, O + k + 1, _, rfl, rfl, by go_num, by omega, HA.out, .inr ⟨j, k + 1, HO.out, rfl, HS.out, .inr ⟨hj, hk1, .inl ⟨HTG.out, HQ2.out⟩⟩⟩⟩
                  case measure => simp [RowKit.intOf]; omega
                · have b34 : ((y : Int) == 34) = false := by rw [beq_eq_false_iff_ne]; omega
                  have HQ2 : Hid (0 = qA (ts j) (k + 1)) := by show _ = _; rw [HQN.out]; unfold qS; rw [if_pos rfl, if_neg (by omega)]
                  clear HEX HNX HQL HYL HYM HQN h62 h39 h34
                  go_wp2_with fail
                  go_roundw
                  case rel => exact ⟨O, 0, O + k + 1, _, rfl, rfl, by go_num, by omega, HA.out, .inr ⟨j, k + 1, HO.out, rfl, HS.out, .inr ⟨hj, hk1, .inl ⟨HTG.out, HQ2.out⟩⟩⟩⟩
                  case measure => simp [RowKit.intOf]; omega
          · have q0 : ((qq : Int) != 0) = true := by rw [bne_iff_ne]; omega
            have hk1 : k + 1 < (ts j).length := by
              by_cases h : k + 1 = (ts j).length
              · exact absurd (HQL.out h) hq0
              · omega
            by_cases hyq : y = qq
            · subst hyq
              have bq : ((y : Int) == (y : Int)) = true := by simp
              have HQ2 : Hid (0 = qA (ts j) (k + 1)) := by show _ = _; rw [HQN.out]; unfold qS; rw [if_neg hq0, if_pos rfl]
              clear HEX HNX HQL HYL HYM HQN hq0
              go_wp2_with fail
              go_roundw
              case rel => exact ⟨O, 0, O + k + 1, _, rfl, rfl, by go_num, by omega, HA.out, .inr ⟨j, k + 1, HO.out, rfl, HS.out, .inr ⟨hj, hk1, .inl ⟨HTG.out, HQ2.out⟩⟩⟩⟩
              case measure => simp [RowKit.intOf]; omega
            · have bq : ((y : Int) == (qq : Int)) = false := by rw [beq_eq_false_iff_ne]; omega
              have HQ2 : Hid (qq = qA (ts j) (k + 1)) := by show _ = _; rw [HQN.out]; unfold qS; rw [if_neg hq0, if_neg hyq]
              clear HEX HNX HQL HYL HYM HQN hq0 hyq
              go_wp2_with fail
              go_roundw
              case rel => exact ⟨O, qq, O + k + 1, _, rfl, rfl, by go_num, by omega, HA.out, .inr ⟨j, k + 1, HO.out, rfl, HS.out, .inr ⟨hj, hk1, .inl ⟨HTG.out, HQ2.out⟩⟩⟩⟩
              case measure => simp [RowKit.intOf]; omega
        · have hz60 := hC.no 0 (by omega)
          have HCH := Lib.hid hC
          generalize By.nb (ts j) 0 = z at hbO hz60
          have n60 : ((z : Int) != 60) = true := by rw [bne_iff_ne]; omega
          clear hz60
          generalize By.nb (ts j) k = y at hbk
          by_cases hbig : 16384 < k + 1
          · have HW := Lib.hid (HP.out.big _ j _ wr hj HS.out hW (by omega))
            go_wp2_with fail
            refine HW.out.mono ?_
            rintro r w1 ⟨⟨o', n', c', sz', f', e', a', m', d'⟩, hr, hF, hB⟩
            have hr : r = .returned (.agg #[.slice o' n' c', .int .i64 sz', .bool f', .bool e', .slice a' m' d']) := hr
            subst hr
            have HF := Lib.hid hF
            have HA1 := Lib.hid (HA.out.st hB)
            clear hF hB HA x0 x1 x2 x3 x4 y0 y1 y2 y3 y4 fx fy HW
            obtain ⟨y0, y1, y2, y3, y4⟩ := bx5 HA1.out.ret
            have fy := fun i => Lib.frozen_of_heap HA1.out.ret i
            have ly : w.heap.size < w1.heap.size := heap_lt HA1.out.ret
            go_wp2_with fail
            (try simp only [Exit.inBlock, Exit.then])
            exact bodyPost_ret (v := .agg #[.slice o' n' c', .int .i64 sz', .bool f', .bool e', .slice a' m' d']) (by simp [results, Tryz.results10, go_sem, y0, y1, y2, y3, y4]) rfl
              ⟨⟨o', n', c', sz', f', e', a', m', d'⟩, rfl, HP.out.keepF _ _ _ _ HF.out (put5_kpb (by omega) _ _ _ _ _), ((((HA1.out.bel.setCell (Nat.le_refl _) _).setCell (Nat.le_refl _) _).setCell (Nat.le_refl _) _).setCell (Nat.le_refl _) _).setCell (Nat.le_refl _) _⟩
          · rcases HP.out.kind j hj with hT | ⟨_, hj1, hn60, hl1⟩
            · exact absurd hT.hd (HCH.out.no 0 (by omega))
            have hfit1 := HP.out.fits (j + 1) hj1
            have hoff : off ts (j + 1 + 1) = off ts (j + 1) + (ts (j + 1)).length := rfl
            have hoff1 : off ts (j + 1) = O + (ts j).length := by rw [HO.out]; rfl
            have hlt1 : O + k + 1 < b.size := by omega
            by_cases hn : k + 1 < (ts j).length
            · have hb1 := (By.byte_nb b (O + k + 1) hlt1).trans ((show By.nb b.data.toList (O + k + 1) = By.nb b.data.toList (off ts j + (k + 1)) by rw [HO.out]; rfl).trans (HP.out.bytes j (k + 1) hj hn))
              have h60 := HCH.out.no (k + 1) hn
              generalize By.nb (ts j) (k + 1) = z1 at hb1 h60
              have e60 : ((z1 : Int) == 60) = false := by rw [beq_eq_false_iff_ne]; omega
              clear h60 hoff hoff1 hfit1 hn60 hl1
              go_wp2_with fail
              go_roundw
              case rel => exact ⟨O, 0, O + k + 1, _, rfl, rfl, by go_num, by omega, HA.out, .inr ⟨j, k + 1, HO.out, rfl, HS.out, .inr ⟨hj, hn, .inr ⟨HCH.out, rfl, by omega⟩⟩⟩⟩
              case measure => simp [RowKit.intOf]; omega
            · have hkl1 : k + 1 = (ts j).length := by omega
              have hb1 := (By.byte_nb b (O + k + 1) hlt1).trans ((show By.nb b.data.toList (O + k + 1) = By.nb b.data.toList (off ts (j + 1) + 0) by rw [hoff1]; congr 1; omega).trans ((HP.out.bytes (j + 1) 0 hj1 hl1).trans hn60))
              have HTK := HP.out.step _ j _ wr.drew hj (HP.out.keepS _ _ _ _ _ HS.out (kpb_below (Below.refl _ wr).drew)) hW (by omega)
              rw [← HEX.out hkl1] at HTK
              have HTK := Lib.hid HTK
              have HN1 := Lib.hid (HNX.out k hkl1)
              have e60 : (((60 : Nat) : Int) == 60) = true := by decide
              clear hoff hoff1 hfit1 hn60 hl1 HEX HNX
              go_upto_region 12 with fail
              have hwr : IntKind.i64.wrap ((O : Int) + (k : Int) + 1) = (O : Int) + (k : Int) + 1 := IntWalk.i64_in _ ⟨by omega, by omega⟩
              have hs0 : (0 : Int) ≤ (O : Int) := by omega
              have hs1 : (O : Int) ≤ (O : Int) + (k : Int) + 1 := by omega
              have hs2 : (O : Int) + (k : Int) + 1 ≤ (b.size : Int) := by omega
              have hs3 : (0 : Int) ≤ (O : Int) + (k : Int) + 1 := by omega
              have ht : ((O : Int) + (k : Int) + 1).toNat = O + k + 1 := by omega
              have ht2 : ((O : Int)).toNat = O := by omega
              go_region_with ((go_at_call 29; refine HTK.out.mono ?_; rintro r w1 ⟨⟨o', n', c', sz', f', e', a', m', d'⟩, hr, hst, hB⟩; have hr : r = .returned (.agg #[.slice o' n' c', .int .i64 sz', .bool f', .bool e', .slice a' m' d']) := hr; subst hr; have HA1 := Lib.hid (HA.out.dr.st hB); have HST := Lib.hid hst; clear hst hB; obtain ⟨x0, x1, x2, x3, x4⟩ := bx5 HA1.out.box; have fx := fun i => Lib.frozen_of_heap HA1.out.box i; have lx : w.heap.size + 1 < w1.heap.size := heap_lt HA1.out.box))
              have HA2 := Lib.hid (HA1.out.put ⟨o', n', c', sz', f', e', a', m', d'⟩)
              have HS2 := Lib.hid (HST.out.imp (fun h => And.intro h.1 (HP.out.keepS _ _ _ _ _ h.2 (put5_kpb (B := w.heap.size + 2) (N := w.heap.size + 1) (by omega) (.slice o' n' c') (.int .i64 sz') (.bool f') (.bool e') (.slice a' m' d')))) (fun h => And.intro h.1 (HP.out.keepF _ _ _ _ h.2 (put5_kpb (B := w.heap.size + 2) (N := w.heap.size + 1) (by omega) (.slice o' n' c') (.int .i64 sz') (.bool f') (.bool e') (.slice a' m' d')))))
              clear x0 x1 x2 x3 x4 y0 y1 y2 y3 y4 fx fy lx ly HST HA1 HA HTK
              go_wp2_with fail
              go_roundw
              case rel => exact ⟨O + k + 1, 0, O + k + 1, ⟨o', n', c', sz', f', e', a', m', d'⟩, by go_num, rfl, by go_num, by omega, HA2.out, HS2.out.elim (fun h => .inr ⟨j + 1, 0, HN1.out.symm, rfl, h.2, HP.out.enter (by omega)⟩) (fun h => .inl h)⟩
              case measure => simp [RowKit.intOf]; omega
end Go.Proofs.YtolnpfcncmcacaaGreatDoor
