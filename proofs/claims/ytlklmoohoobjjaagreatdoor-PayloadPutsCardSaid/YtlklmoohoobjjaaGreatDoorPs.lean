/- The contract of payload.Entries on a roster of entries that may be. Conditions: as entryOf_yes; at most 900 entries. -/
import Derived.Test.YtlklmoohoobjjaaGreatDoorPo
namespace Go.Proofs.YtlklmoohoobjjaaGreatDoor
open Go.RowKit Go.Lib Go.Shelf Tg

theorem infoEntry : (Tryz.prog.info? 48).map (fun i => (i.zero, i.size, i.bytes)) = some (some (.agg #[.int .i64 0, .string ⟨#[]⟩, .string ⟨#[]⟩, .string ⟨#[]⟩, .string ⟨#[]⟩, .string ⟨#[]⟩]), 6, 88) := by kernel_rfl
def cellsE (l : List En) : List Value := l.flatMap fun e => e.cells.toList
theorem cellsE_len (l : List En) : (cellsE l).length = l.length * 6 := by
  induction l with
  | nil => rfl
  | cons a l ih =>
    rw [cellsE, List.flatMap_cons, List.length_append]
    have : (l.flatMap fun e => e.cells.toList).length = l.length * 6 := ih
    rw [this, List.length_cons]
    simp; omega
theorem cellsE_at {l : List En} {i j : Nat} (h : i < l.length) (hj : j < 6) : (cellsE l)[i * 6 + j]? = l[i].cells.toList[j]? := by
  induction l generalizing i with
  | nil => cases h
  | cons a l ih =>
    have e : cellsE (a :: l) = a.cells.toList ++ cellsE l := by simp [cellsE]
    rw [e]
    cases i with
    | zero => exact (by rw [List.getElem?_append_left (by simp; omega)]; simp)
    | succ i =>
      rw [List.getElem?_append_right (by simp; omega)]
      have h2 := ih (i := i) (by simpa using h)
      have e2 : (i + 1) * 6 + j - a.cells.toList.length = i * 6 + j := by simp; omega
      rw [e2, h2]; rfl
theorem cellsE_snoc {l : List En} {k : Nat} (h : k < l.length) : cellsE (l.take (k + 1)) = cellsE (l.take k) ++ l[k].cells.toList := by
  rw [cellsE, cellsE, List.take_succ_eq_append_getElem h, List.flatMap_append, List.flatMap_cons, List.flatMap_nil, List.append_nil]
theorem enS_own {w : World} {B : Nat} {a : Option Addr} {c : Nat} {l : List En} (h : w.ownsRow B 48 6 (.slice a l.length c) l.length (cellsE l)) : EnS (fun b => B ≤ b) w a l := fun i hi => by
  rcases h.2 with ⟨h1, h0⟩ | ⟨g, cap, cur, h1, hb, hg, hn, hc, hs, ht⟩
  · rw [h0] at hi; cases hi
  · simp only [Value.slice.injEq] at h1
    obtain ⟨rfl, _, rfl⟩ := h1
    have k : ∀ j, j < 6 → w.cell? ⟨g, 0 + i * 6 + j, none⟩ = l[i].cells.toList[j]? := fun j hj => by
      have e := cellsE_at hi hj
      rw [← ht, List.getElem?_take] at e
      rw [Lib.cell_of_heap hg, Nat.zero_add]
      split at e
      · rw [← e]; simp
      · omega
    exact ⟨g, 0, rfl, hb, k 0 (by decide), k 1 (by decide), k 2 (by decide), k 3 (by decide), k 4 (by decide), k 5 (by decide)⟩
theorem item_parts (e : En) : e.item.sp = ⟨#[104, 116, 116, 112, 58, 47, 47, 106, 97, 98, 98, 101, 114, 46, 111, 114, 103, 47, 112, 114, 111, 116, 111, 99, 111, 108, 47, 114, 111, 115, 116, 101, 114, 120]⟩ ∧ e.item.nm = ⟨#[105, 116, 101, 109]⟩ ∧ e.item.atr = itemA e.k (Jn.putB e.n e.d e.r) e.nm ∧ e.item.tx = ⟨#[]⟩ ∧ e.item.ks = grpK e.g := ⟨rfl, rfl, rfl, rfl, rfl⟩
/-- What Entries gives. -/
def EnP (l : List En) (w : World) (r : Ending) (w' : World) : Prop := ∃ a c, r = .returned (.tuple #[.slice a l.length c, .int .i64 0]) ∧ EnS (fun b => w.heap.size ≤ b) w' a l ∧ Below w.heap.size w w'
set_option maxRecDepth 100000 in
set_option maxHeartbeats 8000000 in
theorem entries_yes (l : List En) (aA aK : Option Addr) (cA cK B : Nat) (w : World) (hK : KsIn B w aK (l.map En.item)) (hB : B ≤ w.heap.size) (hz : ∀ e ∈ l, e.Sz) (hi : ∀ e ∈ l, e.Is) (hn : l.length ≤ 900) :
    Calls Tryz.prog 26 #[.agg #[.string ⟨#[104, 116, 116, 112, 58, 47, 47, 106, 97, 98, 98, 101, 114, 46, 111, 114, 103, 47, 112, 114, 111, 116, 111, 99, 111, 108, 47, 114, 111, 115, 116, 101, 114, 120]⟩, .string ⟨#[120]⟩, .slice aA 0 cA, .string ⟨#[]⟩, .slice aK (l.map En.item).length cK]] w (EnP l w) := by
  have hkl : (l.map En.item).length = l.length := by simp
  have HK : Hid (∀ W, Below w.heap.size w W → KsIn B W aK (l.map En.item)) := fun W hb => hK.below (hb.mono hB)
  have HBB := Lib.hid hB
  have HAT : Hid (∀ k (h : k < l.length) (h2 : k < (l.map En.item).length), (l.map En.item)[k] = l[k].item) := fun k h h2 => by simp
  have HZ := Lib.hid hz
  have HIS := Lib.hid hi
  clear hK hB hz hi
  rw [hkl]
  have HEND : Hid (∀ (a : Option Addr) (c : Nat) (r : Ending) (W : World), r = .returned (.tuple #[.slice a l.length c, .int .i64 0]) → W.ownsRow w.heap.size 48 6 (.slice a l.length c) l.length (cellsE l) → Below w.heap.size w W → EnP l w r W) := fun a c r W hr ho hb => ⟨a, c, hr, enS_own ho, hb⟩
  generalize hpost : EnP l w = POST at HEND ⊢
  generalize hkk : l.map En.item = kk at HK HAT hkl
  clear hpost hkk
  have HB0 : Hid (Below w.heap.size w (w.alloc (.cells #[.string ⟨#[104, 116, 116, 112, 58, 47, 47, 106, 97, 98, 98, 101, 114, 46, 111, 114, 103, 47, 112, 114, 111, 116, 111, 99, 111, 108, 47, 114, 111, 115, 116, 101, 114, 120]⟩, .string ⟨#[120]⟩, .slice aA 0 cA, .string ⟨#[]⟩, .slice aK l.length cK] 30))) := (Below.refl _ w).alloc (Nat.le_refl _) _
  have HE0 : Hid ((w.alloc (.cells #[.string ⟨#[104, 116, 116, 112, 58, 47, 47, 106, 97, 98, 98, 101, 114, 46, 111, 114, 103, 47, 112, 114, 111, 116, 111, 99, 111, 108, 47, 114, 111, 115, 116, 101, 114, 120]⟩, .string ⟨#[120]⟩, .slice aA 0 cA, .string ⟨#[]⟩, .slice aK l.length cK] 30)).heap[w.heap.size]? = some (.cells #[.string ⟨#[104, 116, 116, 112, 58, 47, 47, 106, 97, 98, 98, 101, 114, 46, 111, 114, 103, 47, 112, 114, 111, 116, 111, 99, 111, 108, 47, 114, 111, 115, 116, 101, 114, 120]⟩, .string ⟨#[120]⟩, .slice aA 0 cA, .string ⟨#[]⟩, .slice aK l.length cK] 30 (0, 0))) := box_new w _ _
  go_enter Tryz.func26, Tryz.ntmps26
  go_upto_region 1 with fail
  generalize w.alloc (.cells #[.string ⟨#[104, 116, 116, 112, 58, 47, 47, 106, 97, 98, 98, 101, 114, 46, 111, 114, 103, 47, 112, 114, 111, 116, 111, 99, 111, 108, 47, 114, 111, 115, 116, 101, 114, 120]⟩, .string ⟨#[120]⟩, .slice aA 0 cA, .string ⟨#[]⟩, .slice aK l.length cK] 30) = W0 at HB0 HE0 ⊢
  obtain ⟨x0, x1, x2, x3, x4⟩ := bx5 HE0.out
  go_wp2_with fail
  refine (is_any ⟨#[104, 116, 116, 112, 58, 47, 47, 106, 97, 98, 98, 101, 114, 46, 111, 114, 103, 47, 112, 114, 111, 116, 111, 99, 111, 108, 47, 114, 111, 115, 116, 101, 114, 120]⟩ ⟨#[120]⟩ ⟨#[]⟩ ⟨#[104, 116, 116, 112, 58, 47, 47, 106, 97, 98, 98, 101, 114, 46, 111, 114, 103, 47, 112, 114, 111, 116, 111, 99, 111, 108, 47, 114, 111, 115, 116, 101, 114, 120]⟩ ⟨#[120]⟩ aA aK 0 cA l.length cK _).mono ?_
  rintro r1 w1 ⟨rfl, hb⟩
  have ht1 : ((⟨#[104, 116, 116, 112, 58, 47, 47, 106, 97, 98, 98, 101, 114, 46, 111, 114, 103, 47, 112, 114, 111, 116, 111, 99, 111, 108, 47, 114, 111, 115, 116, 101, 114, 120]⟩ : ByteArray).toList == (⟨#[104, 116, 116, 112, 58, 47, 47, 106, 97, 98, 98, 101, 114, 46, 111, 114, 103, 47, 112, 114, 111, 116, 111, 99, 111, 108, 47, 114, 111, 115, 116, 101, 114, 120]⟩ : ByteArray).toList && (⟨#[120]⟩ : ByteArray).toList == (⟨#[120]⟩ : ByteArray).toList) = true := by simp
  rw [ht1]
  have HB1 := Lib.hid (more HB0.out (Nat.le_refl _) hb)
  have HE1 := Lib.hid ((hb.block _ (heap_lt HE0.out)).trans HE0.out)
  clear hb HB0 HE0 x0 x1 x2 x3 x4 ht1
  have HO1 : Hid (w1.ownsRow w.heap.size 48 6 (.slice none 0 0) 0 (cellsE (l.take 0))) := World.ownsRow_nil _ _ _ _
  obtain ⟨x0, x1, x2, x3, x4⟩ := bx5 HE1.out
  go_wp2_with fail
  go_loopw [4, 15] (fun v i wr => ∃ (k : Nat) (a : Option Addr) (c : Nat), i = .int .i64 k ∧ k ≤ l.length ∧ v = .slice a k c ∧ Hid (Below w.heap.size w wr) ∧ Hid (wr.heap[w.heap.size]? = some (.cells #[.string ⟨#[104, 116, 116, 112, 58, 47, 47, 106, 97, 98, 98, 101, 114, 46, 111, 114, 103, 47, 112, 114, 111, 116, 111, 99, 111, 108, 47, 114, 111, 115, 116, 101, 114, 120]⟩, .string ⟨#[120]⟩, .slice aA 0 cA, .string ⟨#[]⟩, .slice aK l.length cK] 30 (0, 0))) ∧ Hid (wr.ownsRow w.heap.size 48 6 (.slice a k c) k (cellsE (l.take k))) ∧ Hid (ob a k c ≠ some w.heap.size)) (fun _ i _ => l.length - (RowKit.intOf i).toNat)
  case atStart => exact ⟨0, none, 0, rfl, Nat.zero_le _, rfl, HB1.out, HE1.out, HO1.out, fun e => by cases e⟩
  case round =>
    clear HB1 HE1 HO1 x0 x1 x2 x3 x4
    obtain ⟨k, a, c, rfl, hk, rfl, HB, HE, HO, HNE⟩ := hrel
    by_cases hlt : k < l.length
    · obtain ⟨b, o, ka1, kc1, ka2, kc2, rfl, hb, hf5, hkin⟩ := (HK.out wr HB.out) k (by omega)
      have hie := HAT.out k hlt (by omega)
      have hsz := HZ.out _ (List.getElem_mem hlt)
      have his := HIS.out _ (List.getElem_mem hlt)
      have HTK : Hid (cellsE (l.take (k + 1)) = cellsE (l.take k) ++ l[k].cells.toList) := cellsE_snoc hlt
      rw [hie] at hf5 hkin
      generalize l[k] = e at hf5 hkin hsz his HTK
      obtain ⟨ek, n, d, r, nm, g⟩ := e
      have hin2 := hkin.out
      obtain ⟨aA3, cA3, aK3, cK3, hf, ⟨_, _⟩, _, hat, hks⟩ := hin2
      have hf2 : Value.agg #[.string ⟨#[104, 116, 116, 112, 58, 47, 47, 106, 97, 98, 98, 101, 114, 46, 111, 114, 103, 47, 112, 114, 111, 116, 111, 99, 111, 108, 47, 114, 111, 115, 116, 101, 114, 120]⟩, .string ⟨#[105, 116, 101, 109]⟩, .slice ka1 (itemA ek (Jn.putB n d r) nm).length kc1, .string ⟨#[]⟩, .slice ka2 (grpK g).length kc2] = .agg #[.string ⟨#[104, 116, 116, 112, 58, 47, 47, 106, 97, 98, 98, 101, 114, 46, 111, 114, 103, 47, 112, 114, 111, 116, 111, 99, 111, 108, 47, 114, 111, 115, 116, 101, 114, 120]⟩, .string ⟨#[105, 116, 101, 109]⟩, .slice aA3 (itemA ek (Jn.putB n d r) nm).length cA3, .string ⟨#[]⟩, .slice aK3 (grpK g).length cK3] := hf
      simp only [Value.agg.injEq] at hf2
      injection hf2 with hf3
      simp only [List.cons.injEq, Value.slice.injEq, and_true, true_and] at hf3
      obtain ⟨⟨rfl, rfl⟩, rfl, rfl⟩ := hf3
      have hf6 : Five wr b (o + k * 5) (.string ⟨#[104, 116, 116, 112, 58, 47, 47, 106, 97, 98, 98, 101, 114, 46, 111, 114, 103, 47, 112, 114, 111, 116, 111, 99, 111, 108, 47, 114, 111, 115, 116, 101, 114, 120]⟩) (.string ⟨#[105, 116, 101, 109]⟩) (.slice ka1 (itemA ek (Jn.putB n d r) nm).length kc1) (.string ⟨#[]⟩) (.slice ka2 (grpK g).length kc2) := hf5
      obtain ⟨y0, y1, y2, y3, y4⟩ := hf6
      have CE := Lib.hid (fun (W : World) (hb : Below wr.heap.size wr W) => entryOf_yes ek n d r nm g ka1 ka2 kc1 kc2 B W (hat.below (hb.mono (Nat.le_trans HBB.out HB.out.size))) (hks.below (hb.mono (Nat.le_trans HBB.out HB.out.size))) (Nat.le_trans HBB.out (Nat.le_trans HB.out.size hb.size)) hsz his)
      clear hf5 hf hkin hat hks hie hsz his
      generalize itemA ek (Jn.putB n d r) nm = na at y2 CE
      generalize grpK g = gk at y4 CE
      have hwb : w.heap.size < wr.heap.size := heap_lt HE.out
      have hbl : b < wr.heap.size := World.block_lt_of_cell? _ _ y0
      have hb1 : Below wr.heap.size wr (wr.alloc (.cells #[.string ⟨#[104, 116, 116, 112, 58, 47, 47, 106, 97, 98, 98, 101, 114, 46, 111, 114, 103, 47, 112, 114, 111, 116, 111, 99, 111, 108, 47, 114, 111, 115, 116, 101, 114, 120]⟩, .string ⟨#[105, 116, 101, 109]⟩, .slice ka1 na.length kc1, .string ⟨#[]⟩, .slice ka2 gk.length kc2] 30)) := (Below.refl _ wr).alloc (Nat.le_refl _) _
      have HBR := Lib.hid hb1
      have HE1 := Lib.hid ((hb1.block _ (heap_lt HE.out)).trans HE.out)
      have HX1 := Lib.hid (box_new wr #[.string ⟨#[104, 116, 116, 112, 58, 47, 47, 106, 97, 98, 98, 101, 114, 46, 111, 114, 103, 47, 112, 114, 111, 116, 111, 99, 111, 108, 47, 114, 111, 115, 116, 101, 114, 120]⟩, .string ⟨#[105, 116, 101, 109]⟩, .slice ka1 na.length kc1, .string ⟨#[]⟩, .slice ka2 gk.length kc2] 30)
      clear hb1
      go_upto_region 7 with fail
      clear y0 y1 y2 y3 y4
      generalize wr.alloc (.cells #[.string ⟨#[104, 116, 116, 112, 58, 47, 47, 106, 97, 98, 98, 101, 114, 46, 111, 114, 103, 47, 112, 114, 111, 116, 111, 99, 111, 108, 47, 114, 111, 115, 116, 101, 114, 120]⟩, .string ⟨#[105, 116, 101, 109]⟩, .slice ka1 na.length kc1, .string ⟨#[]⟩, .slice ka2 gk.length kc2] 30) = W1 at HBR HE1 HX1 ⊢
      generalize wr.heap.size = X at HX1 hwb hbl ⊢
      obtain ⟨x0, x1, x2, x3, x4⟩ := bx5 HE1.out
      obtain ⟨z0, z1, z2, z3, z4⟩ := bx5 HX1.out
      go_wp2_with fail
      refine (is_any ⟨#[104, 116, 116, 112, 58, 47, 47, 106, 97, 98, 98, 101, 114, 46, 111, 114, 103, 47, 112, 114, 111, 116, 111, 99, 111, 108, 47, 114, 111, 115, 116, 101, 114, 120]⟩ ⟨#[105, 116, 101, 109]⟩ ⟨#[]⟩ ⟨#[104, 116, 116, 112, 58, 47, 47, 106, 97, 98, 98, 101, 114, 46, 111, 114, 103, 47, 112, 114, 111, 116, 111, 99, 111, 108, 47, 114, 111, 115, 116, 101, 114, 120]⟩ ⟨#[105, 116, 101, 109]⟩ ka1 ka2 na.length kc1 gk.length kc2 _).mono ?_
      rintro r1 w2 ⟨rfl, hb2⟩
      have ht1 : ((⟨#[104, 116, 116, 112, 58, 47, 47, 106, 97, 98, 98, 101, 114, 46, 111, 114, 103, 47, 112, 114, 111, 116, 111, 99, 111, 108, 47, 114, 111, 115, 116, 101, 114, 120]⟩ : ByteArray).toList == (⟨#[104, 116, 116, 112, 58, 47, 47, 106, 97, 98, 98, 101, 114, 46, 111, 114, 103, 47, 112, 114, 111, 116, 111, 99, 111, 108, 47, 114, 111, 115, 116, 101, 114, 120]⟩ : ByteArray).toList && (⟨#[105, 116, 101, 109]⟩ : ByteArray).toList == (⟨#[105, 116, 101, 109]⟩ : ByteArray).toList) = true := by simp
      rw [ht1]
      have HBR2 := Lib.hid (HBR.out.trans (hb2.mono HBR.out.size))
      have HX2 := Lib.hid ((hb2.block _ (heap_lt HX1.out)).trans HX1.out)
      clear hb2 ht1 HBR HE1 HX1 x0 x1 x2 x3 x4 z0 z1 z2 z3 z4
      obtain ⟨z0, z1, z2, z3, z4⟩ := bx5 HX2.out
      go_wp2_with fail
      refine (CE.out _ HBR2.out).mono ?_
      rintro r2 w3 ⟨rfl, hb3⟩
      have hb4 : Below w3.heap.size w3 (w3.alloc (.cells #[.int .i64 ek, .string n, .string d, .string r, .string nm, .string g] 48)) := (Below.refl _ w3).alloc (Nat.le_refl _) _
      have HBR4 := Lib.hid ((HBR2.out.trans (hb3.mono HBR2.out.size)).trans (hb4.mono (Nat.le_trans HBR2.out.size hb3.size)))
      have HX4 := Lib.hid (box_new w3 #[.int .i64 ek, .string n, .string d, .string r, .string nm, .string g] 48)
      clear hb3 hb4 HBR2 HX2 CE z0 z1 z2 z3 z4
      go_upto_region 11 with fail
      generalize w3.alloc (.cells #[.int .i64 ek, .string n, .string d, .string r, .string nm, .string g] 48) = W4 at HBR4 HX4 ⊢
      generalize w3.heap.size = Y at HX4 ⊢
      obtain ⟨x0, x1, x2, x3, x4, x5⟩ := bx6 HX4.out
      have hb5 : Below W4.heap.size W4 (W4.alloc (.cells #[.int .i64 ek, .string n, .string d, .string r, .string nm, .string g] 48)) := (Below.refl _ W4).alloc (Nat.le_refl _) _
      have HBR5 := Lib.hid (HBR4.out.trans (hb5.mono HBR4.out.size))
      have HO5 := Lib.hid (own_keep (w' := W4.alloc (.cells #[.int .i64 ek, .string n, .string d, .string r, .string nm, .string g] 48)) HO.out fun b9 e9 => by
        obtain ⟨_, cur, hc⟩ := own_heap HO.out e9
        exact HBR5.out.block _ (heap_lt hc))
      have hw5 : w.heap.size ≤ W4.heap.size := Nat.le_trans HB.out.size HBR4.out.size
      clear hb5
      obtain ⟨i0, hi0, hz0, hz1, hz2⟩ := info_parts infoEntry
      go_wp2_with (at_builtin; refine wpList_append_lies _ rfl _ _ 40 rfl w.heap.size 48 i0 _ 6 88 Tryz.underlying40 hi0 hz0 hz1 hz2 rfl (by decide) _ k (cellsE (l.take k)) rfl HO5.out ⟨W4.heap.size, 0, none⟩ 1 1 [.int .i64 ek, .string n, .string d, .string r, .string nm, .string g] rfl rfl (World.news_of_block (cs := #[.int .i64 ek, .string n, .string d, .string r, .string nm, .string g]) (t := 48) (fr := (0, 0)) (heap_alloc_new W4 _)) (by simp [Value.oneCell']) (by decide) (by unfold maxLen; omega) (by omega) (by simp; omega) _ rfl ?_; intro g9 cap w5 hown hgrow hat9 hlt5)
      have HOK : Hid (∀ b9, ob a k c = some b9 → w.heap.size < b9) := fun b9 e9 => by
        have h1 := (own_heap HO.out e9).1
        have h2 : b9 ≠ w.heap.size := fun e => HNE.out (e ▸ e9)
        omega
      have HB9 := Lib.hid ((HB.out.trans (HBR5.out.mono HB.out.size)).grown hgrow (by simp; omega) (fun b9 e9 => Nat.le_of_lt (HOK.out b9 e9)))
      have HE9 := Lib.hid ((hgrow.block _ (Nat.lt_of_lt_of_le (heap_lt HE.out) HBR5.out.size) (fun e => HNE.out e.symm)).trans ((HBR5.out.block _ (heap_lt HE.out)).trans HE.out))
      have HO9 : Hid (w5.ownsRow w.heap.size 48 6 (.slice (some ⟨g9, 0, none⟩) (k + 1) cap) (k + 1) (cellsE (l.take (k + 1)))) := by
        show World.ownsRow _ _ _ _ _ _ _
        rw [HTK.out]
        exact hown
      have HN9 : Hid (ob (some ⟨g9, 0, none⟩) (k + 1) cap ≠ some w.heap.size) := by
        intro e9
        have e10 : g9 = w.heap.size := by simpa [Value.ownBlock] using e9
        rcases hat9 with h | h
        · exact HNE.out (e10 ▸ h)
        · simp at h; omega
      clear hown hgrow hat9 hlt5 HB HE HO HNE HTK HBR4 HBR5 HO5 HX4 HOK x0 x1 x2 x3 x4 x5 hw5
      go_wp2_with fail
      go_roundw
      case rel => exact ⟨k + 1, _, _, by go_num, by omega, rfl, HB9.out, HE9.out, HO9.out, HN9.out⟩
      case measure => simp [RowKit.intOf]; omega
    · obtain rfl : k = l.length := by omega
      have HO2 : Hid (wr.ownsRow w.heap.size 48 6 (.slice a l.length c) l.length (cellsE l)) := by
        have := HO.out
        rw [List.take_of_length_le (Nat.le_refl _)] at this
        exact this
      clear HO HE HNE
      go_wp2_with fail
      exact HEND.out a c _ _ rfl HO2.out HB.out
end Go.Proofs.YtlklmoohoobjjaaGreatDoor
