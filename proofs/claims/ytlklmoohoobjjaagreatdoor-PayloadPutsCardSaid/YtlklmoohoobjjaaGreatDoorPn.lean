/- The contract of payload.Roster. Condition: at most 900 entries of texts of at most 1048576 bytes. -/
import Derived.Test.YtlklmoohoobjjaaGreatDoorPm
namespace Go.Proofs.YtlklmoohoobjjaaGreatDoor
open Go.RowKit Go.Lib Go.Shelf Tg

/-- An entry. -/
structure En where
  k : Int
  n : ByteArray
  d : ByteArray
  r : ByteArray
  nm : ByteArray
  g : ByteArray
abbrev En.cells (e : En) : Array Value := #[.int .i64 e.k, .string e.n, .string e.d, .string e.r, .string e.nm, .string e.g]
/-- Its texts are not too long. -/
def En.Sz (e : En) : Prop := e.n.size ≤ 1048576 ∧ e.d.size ≤ 1048576 ∧ e.r.size ≤ 1048576 ∧ (Jn.putB e.n e.d e.r).size ≤ 1048576 ∧ e.nm.size ≤ 1048576 ∧ e.g.size ≤ 1048576
def En.item (e : En) : El := itemE e.k (Jn.putB e.n e.d e.r) e.nm e.g
def rosE (l : List En) : El := .mk sRos ⟨#[120]⟩ [] ⟨#[]⟩ (l.map En.item)
/-- Six cells. -/
def Six (w : World) (b o : Nat) (e : En) : Prop := w.cell? ⟨b, o, none⟩ = some (.int .i64 e.k) ∧ w.cell? ⟨b, o + 1, none⟩ = some (.string e.n) ∧ w.cell? ⟨b, o + 2, none⟩ = some (.string e.d) ∧ w.cell? ⟨b, o + 3, none⟩ = some (.string e.r) ∧ w.cell? ⟨b, o + 4, none⟩ = some (.string e.nm) ∧ w.cell? ⟨b, o + 5, none⟩ = some (.string e.g)
/-- Entries in a row, in blocks of S. -/
def EnS (S : Nat → Prop) (w : World) (a : Option Addr) (l : List En) : Prop := ∀ i (h : i < l.length), ∃ b o, a = some ⟨b, o, none⟩ ∧ S b ∧ Six w b (o + i * 6) l[i]
theorem Six.lt {w : World} {b o : Nat} {e : En} (h : Six w b o e) : b < w.heap.size := World.block_lt_of_cell? w _ h.1
theorem Six.keep {w w' : World} {b o : Nat} {e : En} (h : Six w b o e) (hb : w'.heap[b]? = w.heap[b]?) : Six w' b o e :=
  ⟨(World.cell?_of_block (a := ⟨b, o, none⟩) hb).trans h.1, (World.cell?_of_block (a := ⟨b, o + 1, none⟩) hb).trans h.2.1, (World.cell?_of_block (a := ⟨b, o + 2, none⟩) hb).trans h.2.2.1, (World.cell?_of_block (a := ⟨b, o + 3, none⟩) hb).trans h.2.2.2.1, (World.cell?_of_block (a := ⟨b, o + 4, none⟩) hb).trans h.2.2.2.2.1, (World.cell?_of_block (a := ⟨b, o + 5, none⟩) hb).trans h.2.2.2.2.2⟩
theorem EnS.keep {S : Nat → Prop} {w w' : World} {a : Option Addr} {l : List En} (h : EnS S w a l) (hk : ∀ b, S b → b < w.heap.size → w'.heap[b]? = w.heap[b]?) : EnS S w' a l := fun i hi => by
  obtain ⟨b, o, h1, h2, h3⟩ := h i hi
  exact ⟨b, o, h1, h2, h3.keep (hk b h2 h3.lt)⟩
theorem EnS.below {S : Nat → Prop} {w w' : World} {a : Option Addr} {l : List En} (h : EnS S w a l) (hb : Below w.heap.size w w') : EnS S w' a l := h.keep fun b _ hlt => hb.block b hlt
set_option maxRecDepth 100000 in
set_option maxHeartbeats 8000000 in
theorem roster_any (l : List En) (aL : Option Addr) (cL : Nat) (w : World) (hL : EnS (fun _ => True) w aL l) (hz : ∀ e ∈ l, e.Sz) (hn : l.length ≤ 900) :
    Calls Tryz.prog 27 #[.slice aL l.length cL] w (ElP (rosE l) w) := by
  have HEN := Lib.hid hL
  have HZ := Lib.hid hz
  clear hL hz
  have HB0 : Hid (Below w.heap.size w (w.alloc (.cells #[.string ⟨#[]⟩, .string ⟨#[]⟩, .slice none 0 0, .string ⟨#[]⟩, .slice none 0 0] 30))) := (Below.refl _ w).alloc (Nat.le_refl _) _
  have HR0 : Hid ((w.alloc (.cells #[.string ⟨#[]⟩, .string ⟨#[]⟩, .slice none 0 0, .string ⟨#[]⟩, .slice none 0 0] 30)).heap[w.heap.size]? = some (.cells #[.string ⟨#[]⟩, .string ⟨#[]⟩, .slice none 0 0, .string ⟨#[]⟩, .slice none 0 0] 30 (0, 0))) := box_new w _ _
  go_enter Tryz.func27, Tryz.ntmps27
  go_wp2_with fail
  refine (new0_any ⟨#[104, 116, 116, 112, 58, 47, 47, 106, 97, 98, 98, 101, 114, 46, 111, 114, 103, 47, 112, 114, 111, 116, 111, 99, 111, 108, 47, 114, 111, 115, 116, 101, 114, 120]⟩ ⟨#[120]⟩ _ (by decide) (by decide)).mono ?_
  rintro r w1 ⟨aA, cA, rfl, hin, hb⟩
  have HB1 := Lib.hid (more HB0.out (Nat.le_refl _) hb)
  have HR1 := Lib.hid ((hb.block _ (heap_lt HR0.out)).trans HR0.out)
  have HF := Lib.hid (Fm.new HB1.out (Nat.le_refl _) HR1.out hin)
  clear hb hin HB0 HR0 HB1 HR1
  go_upto_region 2 with fail
  simp only [newA, List.length_nil] at HF ⊢
  generalize w1.alloc (.cells #[.string ⟨#[104, 116, 116, 112, 58, 47, 47, 106, 97, 98, 98, 101, 114, 46, 111, 114, 103, 47, 112, 114, 111, 116, 111, 99, 111, 108, 47, 114, 111, 115, 116, 101, 114, 120]⟩, .string ⟨#[120]⟩, .slice aA 0 cA, .string ⟨#[]⟩, .slice none 0 0] 30) = W1 at HF ⊢
  generalize w1.heap.size = T at HF ⊢
  go_wp2_with fail
  go_loopw [9] (fun i wr => ∃ (k : Nat) (a : Option Addr) (c : Nat), i = .int .i64 k ∧ k ≤ l.length ∧ Hid (Fm w w.heap.size T ⟨#[104, 116, 116, 112, 58, 47, 47, 106, 97, 98, 98, 101, 114, 46, 111, 114, 103, 47, 112, 114, 111, 116, 111, 99, 111, 108, 47, 114, 111, 115, 116, 101, 114, 120]⟩ ⟨#[120]⟩ aA cA ((l.take k).map En.item) a c wr)) (fun i _ => l.length - (RowKit.intOf i).toNat)
  case atStart => exact ⟨0, none, 0, rfl, Nat.zero_le _, HF.out⟩
  case round =>
    clear HF
    obtain ⟨k, a, c, rfl, hk, HF⟩ := hrel
    by_cases hlt : k < l.length
    · obtain ⟨b, o, rfl, _, hs⟩ := HEN.out k hlt
      have hbl := hs.lt
      obtain ⟨y0, y1, y2, y3, y4, y5⟩ := hs.keep (w' := wr) (HF.out.bel.block b hbl)
      have hsz := HZ.out _ (List.getElem_mem hlt)
      have HTK : Hid ((l.take (k + 1)).map En.item = (l.take k).map En.item ++ [l[k].item]) := by
        show _ = _
        rw [List.take_succ_eq_append_getElem hlt, List.map_append]; rfl
      have HKN : Hid (((l.take k).map En.item).length = k) := by
        show _ = _
        rw [List.length_map, List.length_take]; omega
      generalize l[k] = e at y0 y1 y2 y3 y4 y5 hsz HTK
      obtain ⟨ek, n, d, r, nm, g⟩ := e
      obtain ⟨h1, h2, h3, hp, h4, h5⟩ := hsz
      simp only at y0 y1 y2 y3 y4 y5 h1 h2 h3 hp h4 h5
      generalize (l.take k).map En.item = kk at HF HTK HKN
      have hkn : kk.length ≤ 900 := by have := HKN.out; omega
      have hwb : b < wr.heap.size := Nat.lt_of_lt_of_le hbl HF.out.bel.size
      have hb1 : Below wr.heap.size wr (wr.alloc (.cells #[.int .i64 ek, .string n, .string d, .string r, .string nm, .string g] 48)) := (Below.refl _ wr).alloc (Nat.le_refl _) _
      have HF1 := Lib.hid (HF.out.st hb1)
      have HX1 := Lib.hid (box_new wr #[.int .i64 ek, .string n, .string d, .string r, .string nm, .string g] 48)
      clear hb1 HF
      go_upto_region 5 with fail
      clear y0 y1 y2 y3 y4 y5 hwb hbl
      generalize wr.alloc (.cells #[.int .i64 ek, .string n, .string d, .string r, .string nm, .string g] 48) = W1 at HF1 HX1 ⊢
      generalize wr.heap.size = X at HX1 ⊢
      have HF := HF1
      clear HF1
      refine region_psi 4 (fun j => [13, 14, 15, 16].getD j 0) (psL [Pr.eq (.agg #[.string ⟨#[104, 116, 116, 112, 58, 47, 47, 106, 97, 98, 98, 101, 114, 46, 111, 114, 103, 47, 112, 114, 111, 116, 111, 99, 111, 108, 47, 114, 111, 115, 116, 101, 114, 120]⟩, .string ⟨#[120]⟩, .slice aA 0 cA, .string ⟨#[]⟩, .slice a kk.length c]), Pr.eq (.agg #[.int .i64 ek, .string n, .string d, .string r, .string nm, .string g]), Pr.el W1.heap.size (itemE ek (Jn.putB n d r) nm g), Pr.row (W1.heap.size) (itemE ek (Jn.putB n d r) nm g)]) (by kernel_rfl) (by kernel_rfl) (by kernel_rfl) (by kernel_rfl) (by decide) (by kernel_rfl) (by kernel_rfl) (psL_mono _) ?_ ?_
      · intro i o hi ho q W hsz hout hbel hdep
        obtain ⟨x0, x1, x2, x3, x4⟩ := (HF.out.st hbel).load
        have hXW := (hbel.block _ (heap_lt HX1.out)).trans HX1.out
        obtain ⟨y0, y1, y2, y3, y4, y5⟩ := bx6 hXW
        have hc : i = 0 ∨ i = 1 ∨ i = 2 ∨ i = 3 := by omega
        rcases hc with rfl | rfl | rfl | rfl
        · -- 0
          cases ho
          have e3 : q.eval (.tmp 3) = .pointer (some ⟨T, 0, none⟩) := (hout 3 (by decide)).trans rfl
          refine gives_read (v := .agg #[.string ⟨#[104, 116, 116, 112, 58, 47, 47, 106, 97, 98, 98, 101, 114, 46, 111, 114, 103, 47, 112, 114, 111, 116, 111, 99, 111, 108, 47, 114, 111, 115, 116, 101, 114, 120]⟩, .string ⟨#[120]⟩, .slice aA 0 cA, .string ⟨#[]⟩, .slice a kk.length c]) ?_ rfl
          unfold execOp
          dsimp only
          rw [e3]
          go_simp
        · -- 1
          cases ho
          have e5 : q.eval (.tmp 5) = .pointer (some ⟨X, 0, none⟩) := (hout 5 (by decide)).trans rfl
          refine gives_read (v := .agg #[.int .i64 ek, .string n, .string d, .string r, .string nm, .string g]) ?_ rfl
          unfold execOp
          dsimp only
          rw [e5]
          go_simp
        · -- 2
          cases ho
          have e14 : q.eval (.tmp 14) = .agg #[.int .i64 ek, .string n, .string d, .string r, .string nm, .string g] := hdep ⟨1, .data⟩ (by simp) rfl (by decide)
          refine gives_call (f := 47) (args := #[.agg #[.int .i64 ek, .string n, .string d, .string r, .string nm, .string g]]) ?_ ((itemOf_any ek n d r nm g W h1 h2 h3 hp h4 h5).mono ?_)
          · unfold execOp
            dsimp only
            simp only [resolve, List.map_toArray, List.map_cons, List.map_nil, e14]
            go_simp
          · rintro e W' ⟨v, rfl, hin, hb⟩
            obtain ⟨b1, d1, b2, d2, hf⟩ := hin.out
            exact ⟨_, rfl, hb, b1, d1, b2, d2, hf, hin.weak fun _ _ h => Nat.le_trans hbel.size h⟩
        · -- 3
          cases ho
          obtain ⟨aA, cA, aK, cK, e15, hE⟩ : ∃ aA cA aK cK, q.eval (.tmp 15) = .agg #[.string ((itemE ek (Jn.putB n d r) nm g)).sp, .string ((itemE ek (Jn.putB n d r) nm g)).nm, .slice aA ((itemE ek (Jn.putB n d r) nm g)).atr.length cA, .string ((itemE ek (Jn.putB n d r) nm g)).tx, .slice aK ((itemE ek (Jn.putB n d r) nm g)).ks.length cK] ∧ InS (fun b => W1.heap.size ≤ b) W (itemE ek (Jn.putB n d r) nm g) (q.eval (.tmp 15)) := hdep ⟨2, .data⟩ (by simp) rfl (by decide)
          rw [e15] at hE
          refine gives_run (W' := W.alloc (.cells #[.string ((itemE ek (Jn.putB n d r) nm g)).sp, .string ((itemE ek (Jn.putB n d r) nm g)).nm, .slice aA ((itemE ek (Jn.putB n d r) nm g)).atr.length cA, .string ((itemE ek (Jn.putB n d r) nm g)).tx, .slice aK ((itemE ek (Jn.putB n d r) nm g)).ks.length cK] 30)) (v := .slice (some ⟨W.heap.size, 0, none⟩) 1 1) ?_ ((Below.refl _ W).alloc (Nat.le_refl _) _) (row_new (hbel.size) hE)
          unfold execOp
          dsimp only
          simp only [List.map_toArray, List.map_cons, List.map_nil, e15]
          go_simp
      · intro q W hq hbel hv
        have e13 : q.eval (.tmp 13) = .agg #[.string ⟨#[104, 116, 116, 112, 58, 47, 47, 106, 97, 98, 98, 101, 114, 46, 111, 114, 103, 47, 112, 114, 111, 116, 111, 99, 111, 108, 47, 114, 111, 115, 116, 101, 114, 120]⟩, .string ⟨#[120]⟩, .slice aA 0 cA, .string ⟨#[]⟩, .slice a kk.length c] := hv 0 (by decide)
        obtain ⟨B, v0, v1, v2, v3, v4, e16, hB, hBB, hBI⟩ : ∃ B v0 v1 v2 v3 v4, q.eval (.tmp 16) = .slice (some ⟨B, 0, none⟩) 1 1 ∧ W1.heap.size ≤ B ∧ W.heap[B]? = some (.cells #[v0, v1, v2, v3, v4] 30 (0, 0)) ∧ InS (fun b => W1.heap.size ≤ b) W (itemE ek (Jn.putB n d r) nm g) (.agg #[v0, v1, v2, v3, v4]) := hv 3 (by decide)
        have HFW := Lib.hid (HF.out.st hbel)
        have CW := Lib.hid (HFW.out.with_ (aQ := some ⟨B, 0, none⟩) (cQ := 1) (qs := [(itemE ek (Jn.putB n d r) nm g)]) W1 (heap_lt HF.out.tb) (fun b e => (HF.out.oe.lt b e).2) (ks_el hBB hB hBI) (by simp; omega))
        have hq2 : q = canonL q [13, 14, 15, 16] _ := hq
        simp only [canonL] at hq2
        rw [e13, e16] at hq2
        clear hq hv e13 e16
        generalize q.eval (.tmp 14) = u14 at hq2
        generalize q.eval (.tmp 15) = u15 at hq2
        subst hq2
        clear hB hBB hBI HF HX1 hbel
        go_wp2_with fail
        refine CW.out.mono ?_
        rintro r9 w7 ⟨a7, c7, rfl, ho, hg, hl⟩
        have hr : [(itemE ek (Jn.putB n d r) nm g)].map (reS ⟨#[104, 116, 116, 112, 58, 47, 47, 106, 97, 98, 98, 101, 114, 46, 111, 114, 103, 47, 112, 114, 111, 116, 111, 99, 111, 108, 47, 114, 111, 115, 116, 101, 114, 120]⟩) = [En.item ⟨ek, n, d, r, nm, g⟩] := rfl
        rw [hr] at ho hl
        rw [hr]
        rw [← HTK.out] at ho hl
        rw [← HTK.out]
        have HF2 := Lib.hid (HFW.out.put ho hg hl)
        have ht2 := (hg.block _ (heap_lt HFW.out.tb) (fun e => HFW.out.nt e.symm)).trans HFW.out.tb
        obtain ⟨z0, z1, z2, z3, z4⟩ := bx5 ht2
        have f0 := Lib.frozen_of_heap ht2 0
        have f1 := Lib.frozen_of_heap ht2 1
        have f2 := Lib.frozen_of_heap ht2 2
        have f3 := Lib.frozen_of_heap ht2 3
        have f4 := Lib.frozen_of_heap ht2 4
        clear ht2 ho hg hl hr CW HFW HKN
        generalize hk2 : (l.take (k + 1)).map En.item = k2 at HF2 HTK ⊢
        have HK2 := Lib.hid hk2
        clear hk2 HTK
        go_upto_region 6 with fail
        clear z0 z1 z2 z3 z4 f0 f1 f2 f3 f4
        generalize ((((w7.setCell ⟨T, 0, none⟩ (.string ⟨#[104, 116, 116, 112, 58, 47, 47, 106, 97, 98, 98, 101, 114, 46, 111, 114, 103, 47, 112, 114, 111, 116, 111, 99, 111, 108, 47, 114, 111, 115, 116, 101, 114, 120]⟩)).setCell ⟨T, 1, none⟩ (.string ⟨#[120]⟩)).setCell ⟨T, 2, none⟩ (.slice aA 0 cA)).setCell ⟨T, 3, none⟩ (.string ⟨#[]⟩)).setCell ⟨T, 4, none⟩ (.slice a7 k2.length c7) = W8 at HF2 ⊢
        go_wp2_with fail
        go_roundw
        case rel => exact ⟨k + 1, _, _, by go_num, by omega, by (show Fm _ _ _ _ _ _ _ _ _ _ _); rw [HK2.out]; exact HF2.out⟩
        case measure => simp [RowKit.intOf]; omega
    · obtain rfl : k = l.length := by omega
      have HE : Hid (rosE l = .mk ⟨#[104, 116, 116, 112, 58, 47, 47, 106, 97, 98, 98, 101, 114, 46, 111, 114, 103, 47, 112, 114, 111, 116, 111, 99, 111, 108, 47, 114, 111, 115, 116, 101, 114, 120]⟩ ⟨#[120]⟩ [] ⟨#[]⟩ ((l.take l.length).map En.item)) := by
        show _ = _
        rw [List.take_of_length_le (Nat.le_refl _)]; rfl
      generalize (l.take l.length).map En.item = kk at HF HE
      obtain ⟨x0, x1, x2, x3, x4⟩ := HF.out.load
      obtain ⟨q0, q1, q2, q3, q4⟩ := bx5 HF.out.rb
      have p0 := Lib.frozen_of_heap HF.out.rb 0
      have p1 := Lib.frozen_of_heap HF.out.rb 1
      have p2 := Lib.frozen_of_heap HF.out.rb 2
      have p3 := Lib.frozen_of_heap HF.out.rb 3
      have p4 := Lib.frozen_of_heap HF.out.rb 4
      go_wp2_with fail
      refine bodyPost_ret (v := .agg #[.string ⟨#[104, 116, 116, 112, 58, 47, 47, 106, 97, 98, 98, 101, 114, 46, 111, 114, 103, 47, 112, 114, 111, 116, 111, 99, 111, 108, 47, 114, 111, 115, 116, 101, 114, 120]⟩, .string ⟨#[120]⟩, .slice aA 0 cA, .string ⟨#[]⟩, .slice a kk.length c]) (by simp [results, Tryz.results27, go_sem, q0, q1, q2, q3, q4]) rfl ?_
      rw [HE.out]
      have hf := HF.out.fin (u0 := .string ⟨#[104, 116, 116, 112, 58, 47, 47, 106, 97, 98, 98, 101, 114, 46, 111, 114, 103, 47, 112, 114, 111, 116, 111, 99, 111, 108, 47, 114, 111, 115, 116, 101, 114, 120]⟩) (u1 := .string ⟨#[120]⟩) (u2 := .slice aA 0 cA) (u3 := .string ⟨#[]⟩) (u4 := .slice a kk.length c)
      exact ⟨_, rfl, hf.1, hf.2⟩
end Go.Proofs.YtlklmoohoobjjaaGreatDoor
