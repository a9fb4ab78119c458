/- The contract of payload.Info. No condition. -/
import Derived.Test.YtlklmoohoobjjaaGreatDoorPk
namespace Go.Proofs.YtlklmoohoobjjaaGreatDoor
open Go.RowKit Go.Lib Go.Shelf Tg

def idE (c t : ByteArray) : El := .mk sInf ⟨#[105, 100, 101, 110, 116, 105, 116, 121]⟩ (newA [⟨#[99, 97, 116, 101, 103, 111, 114, 121]⟩, c, ⟨#[116, 121, 112, 101]⟩, t]) ⟨#[]⟩ []
def featE (s : ByteArray) : El := .mk sInf ⟨#[102, 101, 97, 116, 117, 114, 101]⟩ (newA [⟨#[118, 97, 114]⟩, s]) ⟨#[]⟩ []
def infoL (b : Bool) : List ByteArray := if b then [sReg, sGat, sInf, sItm, sLst] else [sInf, sLst]
def infoE (b : Bool) : El := .mk sInf ⟨#[113, 117, 101, 114, 121]⟩ [] ⟨#[]⟩ (idE (if b then ⟨#[103, 97, 116, 101, 119, 97, 121]⟩ else ⟨#[99, 108, 105, 101, 110, 116]⟩) (if b then ⟨#[97, 105, 109]⟩ else ⟨#[112, 99]⟩) :: (infoL b).map featE)
theorem str_mem2 {S : Nat} {W : World} {x0 x1 : ByteArray} {fz : Nat × Nat} (h : W.heap[S]? = some (.cells #[.string x0, .string x1] 9 fz)) : ∀ i (hi : i < [x0, x1].length), ∃ S', some (⟨S, 0, none⟩ : Addr) = some ⟨S', 0, none⟩ ∧ W.cell? ⟨S', i, none⟩ = some (.string [x0, x1][i]) := fun i hi => ⟨S, rfl, by
  have hi2 : i < 2 := hi
  rw [Lib.cell_of_heap h]
  have hc : i = 0 ∨ i = 1 := by omega
  rcases hc with rfl | rfl <;> rfl⟩
theorem str_mem4 {S : Nat} {W : World} {x0 x1 x2 x3 : ByteArray} {fz : Nat × Nat} (h : W.heap[S]? = some (.cells #[.string x0, .string x1, .string x2, .string x3] 9 fz)) : ∀ i (hi : i < [x0, x1, x2, x3].length), ∃ S', some (⟨S, 0, none⟩ : Addr) = some ⟨S', 0, none⟩ ∧ W.cell? ⟨S', i, none⟩ = some (.string [x0, x1, x2, x3][i]) := fun i hi => ⟨S, rfl, by
  have hi2 : i < 4 := hi
  rw [Lib.cell_of_heap h]
  have hc : i = 0 ∨ i = 1 ∨ i = 2 ∨ i = 3 := by omega
  rcases hc with rfl | rfl | rfl | rfl <;> rfl⟩
theorem sz2 {x0 x1 : ByteArray} (h0 : x0.size ≤ 1048576) (h1 : x1.size ≤ 1048576) : ∀ s ∈ [x0, x1], s.size ≤ 1048576 := fun s hs => by
  rcases List.mem_cons.1 hs with rfl | hs
  · exact h0
  · rcases List.mem_cons.1 hs with rfl | hs
    · exact h1
    · cases hs
theorem sz4 {x0 x1 x2 x3 : ByteArray} (h0 : x0.size ≤ 1048576) (h1 : x1.size ≤ 1048576) (h2 : x2.size ≤ 1048576) (h3 : x3.size ≤ 1048576) : ∀ s ∈ [x0, x1, x2, x3], s.size ≤ 1048576 := fun s hs => by
  rcases List.mem_cons.1 hs with rfl | hs
  · exact h0
  · rcases List.mem_cons.1 hs with rfl | hs
    · exact h1
    · exact sz2 h2 h3 s hs
set_option maxRecDepth 100000 in
set_option maxHeartbeats 8000000 in
theorem info_t (w : World) : Calls Tryz.prog 15 #[.bool true] w (ElP (infoE true) w) := by
  have HB0 : Hid (Below w.heap.size w (((w.alloc (.cells #[.string ⟨#[]⟩, .string ⟨#[]⟩, .slice none 0 0, .string ⟨#[]⟩, .slice none 0 0] 30)).alloc (.cells #[.string ⟨#[104, 116, 116, 112, 58, 47, 47, 106, 97, 98, 98, 101, 114, 46, 111, 114, 103, 47, 112, 114, 111, 116, 111, 99, 111, 108, 47, 100, 105, 115, 99, 111, 35, 105, 110, 102, 111]⟩, .string ⟨#[106, 97, 98, 98, 101, 114, 58, 105, 113, 58, 108, 97, 115, 116]⟩] 9)).alloc (.cells #[.string ⟨#[106, 97, 98, 98, 101, 114, 58, 105, 113, 58, 114, 101, 103, 105, 115, 116, 101, 114]⟩, .string ⟨#[106, 97, 98, 98, 101, 114, 58, 105, 113, 58, 103, 97, 116, 101, 119, 97, 121]⟩, .string ⟨#[104, 116, 116, 112, 58, 47, 47, 106, 97, 98, 98, 101, 114, 46, 111, 114, 103, 47, 112, 114, 111, 116, 111, 99, 111, 108, 47, 100, 105, 115, 99, 111, 35, 105, 110, 102, 111]⟩, .string ⟨#[104, 116, 116, 112, 58, 47, 47, 106, 97, 98, 98, 101, 114, 46, 111, 114, 103, 47, 112, 114, 111, 116, 111, 99, 111, 108, 47, 100, 105, 115, 99, 111, 35, 105, 116, 101, 109, 115]⟩, .string ⟨#[106, 97, 98, 98, 101, 114, 58, 105, 113, 58, 108, 97, 115, 116]⟩] 9))) := (((Below.refl _ w).alloc (Nat.le_refl _) _).alloc (by simp) _).alloc (by simp; omega) _
  have HR0 : Hid ((((w.alloc (.cells #[.string ⟨#[]⟩, .string ⟨#[]⟩, .slice none 0 0, .string ⟨#[]⟩, .slice none 0 0] 30)).alloc (.cells #[.string ⟨#[104, 116, 116, 112, 58, 47, 47, 106, 97, 98, 98, 101, 114, 46, 111, 114, 103, 47, 112, 114, 111, 116, 111, 99, 111, 108, 47, 100, 105, 115, 99, 111, 35, 105, 110, 102, 111]⟩, .string ⟨#[106, 97, 98, 98, 101, 114, 58, 105, 113, 58, 108, 97, 115, 116]⟩] 9)).alloc (.cells #[.string ⟨#[106, 97, 98, 98, 101, 114, 58, 105, 113, 58, 114, 101, 103, 105, 115, 116, 101, 114]⟩, .string ⟨#[106, 97, 98, 98, 101, 114, 58, 105, 113, 58, 103, 97, 116, 101, 119, 97, 121]⟩, .string ⟨#[104, 116, 116, 112, 58, 47, 47, 106, 97, 98, 98, 101, 114, 46, 111, 114, 103, 47, 112, 114, 111, 116, 111, 99, 111, 108, 47, 100, 105, 115, 99, 111, 35, 105, 110, 102, 111]⟩, .string ⟨#[104, 116, 116, 112, 58, 47, 47, 106, 97, 98, 98, 101, 114, 46, 111, 114, 103, 47, 112, 114, 111, 116, 111, 99, 111, 108, 47, 100, 105, 115, 99, 111, 35, 105, 116, 101, 109, 115]⟩, .string ⟨#[106, 97, 98, 98, 101, 114, 58, 105, 113, 58, 108, 97, 115, 116]⟩] 9)).heap[w.heap.size]? = some (.cells #[.string ⟨#[]⟩, .string ⟨#[]⟩, .slice none 0 0, .string ⟨#[]⟩, .slice none 0 0] 30 (0, 0))) := (Below.heap_alloc _ _ _ (by simp; omega)).trans ((Below.heap_alloc _ _ _ (by simp)).trans (box_new w _ _))
  have HS0 : Hid ((((w.alloc (.cells #[.string ⟨#[]⟩, .string ⟨#[]⟩, .slice none 0 0, .string ⟨#[]⟩, .slice none 0 0] 30)).alloc (.cells #[.string ⟨#[104, 116, 116, 112, 58, 47, 47, 106, 97, 98, 98, 101, 114, 46, 111, 114, 103, 47, 112, 114, 111, 116, 111, 99, 111, 108, 47, 100, 105, 115, 99, 111, 35, 105, 110, 102, 111]⟩, .string ⟨#[106, 97, 98, 98, 101, 114, 58, 105, 113, 58, 108, 97, 115, 116]⟩] 9)).alloc (.cells #[.string ⟨#[106, 97, 98, 98, 101, 114, 58, 105, 113, 58, 114, 101, 103, 105, 115, 116, 101, 114]⟩, .string ⟨#[106, 97, 98, 98, 101, 114, 58, 105, 113, 58, 103, 97, 116, 101, 119, 97, 121]⟩, .string ⟨#[104, 116, 116, 112, 58, 47, 47, 106, 97, 98, 98, 101, 114, 46, 111, 114, 103, 47, 112, 114, 111, 116, 111, 99, 111, 108, 47, 100, 105, 115, 99, 111, 35, 105, 110, 102, 111]⟩, .string ⟨#[104, 116, 116, 112, 58, 47, 47, 106, 97, 98, 98, 101, 114, 46, 111, 114, 103, 47, 112, 114, 111, 116, 111, 99, 111, 108, 47, 100, 105, 115, 99, 111, 35, 105, 116, 101, 109, 115]⟩, .string ⟨#[106, 97, 98, 98, 101, 114, 58, 105, 113, 58, 108, 97, 115, 116]⟩] 9)).heap[w.heap.size + 1 + 1]? = some (.cells #[.string ⟨#[106, 97, 98, 98, 101, 114, 58, 105, 113, 58, 114, 101, 103, 105, 115, 116, 101, 114]⟩, .string ⟨#[106, 97, 98, 98, 101, 114, 58, 105, 113, 58, 103, 97, 116, 101, 119, 97, 121]⟩, .string ⟨#[104, 116, 116, 112, 58, 47, 47, 106, 97, 98, 98, 101, 114, 46, 111, 114, 103, 47, 112, 114, 111, 116, 111, 99, 111, 108, 47, 100, 105, 115, 99, 111, 35, 105, 110, 102, 111]⟩, .string ⟨#[104, 116, 116, 112, 58, 47, 47, 106, 97, 98, 98, 101, 114, 46, 111, 114, 103, 47, 112, 114, 111, 116, 111, 99, 111, 108, 47, 100, 105, 115, 99, 111, 35, 105, 116, 101, 109, 115]⟩, .string ⟨#[106, 97, 98, 98, 101, 114, 58, 105, 113, 58, 108, 97, 115, 116]⟩] 9 (0, 0))) := by
    have := box_new ((w.alloc (.cells #[.string ⟨#[]⟩, .string ⟨#[]⟩, .slice none 0 0, .string ⟨#[]⟩, .slice none 0 0] 30)).alloc (.cells #[.string ⟨#[104, 116, 116, 112, 58, 47, 47, 106, 97, 98, 98, 101, 114, 46, 111, 114, 103, 47, 112, 114, 111, 116, 111, 99, 111, 108, 47, 100, 105, 115, 99, 111, 35, 105, 110, 102, 111]⟩, .string ⟨#[106, 97, 98, 98, 101, 114, 58, 105, 113, 58, 108, 97, 115, 116]⟩] 9)) #[.string ⟨#[106, 97, 98, 98, 101, 114, 58, 105, 113, 58, 114, 101, 103, 105, 115, 116, 101, 114]⟩, .string ⟨#[106, 97, 98, 98, 101, 114, 58, 105, 113, 58, 103, 97, 116, 101, 119, 97, 121]⟩, .string ⟨#[104, 116, 116, 112, 58, 47, 47, 106, 97, 98, 98, 101, 114, 46, 111, 114, 103, 47, 112, 114, 111, 116, 111, 99, 111, 108, 47, 100, 105, 115, 99, 111, 35, 105, 110, 102, 111]⟩, .string ⟨#[104, 116, 116, 112, 58, 47, 47, 106, 97, 98, 98, 101, 114, 46, 111, 114, 103, 47, 112, 114, 111, 116, 111, 99, 111, 108, 47, 100, 105, 115, 99, 111, 35, 105, 116, 101, 109, 115]⟩, .string ⟨#[106, 97, 98, 98, 101, 114, 58, 105, 113, 58, 108, 97, 115, 116]⟩] 9
    show _ = _
    simpa using this
  go_enter Tryz.func15, Tryz.ntmps15
  go_upto_region 6 with fail
  generalize ((w.alloc (.cells #[.string ⟨#[]⟩, .string ⟨#[]⟩, .slice none 0 0, .string ⟨#[]⟩, .slice none 0 0] 30)).alloc (.cells #[.string ⟨#[104, 116, 116, 112, 58, 47, 47, 106, 97, 98, 98, 101, 114, 46, 111, 114, 103, 47, 112, 114, 111, 116, 111, 99, 111, 108, 47, 100, 105, 115, 99, 111, 35, 105, 110, 102, 111]⟩, .string ⟨#[106, 97, 98, 98, 101, 114, 58, 105, 113, 58, 108, 97, 115, 116]⟩] 9)).alloc (.cells #[.string ⟨#[106, 97, 98, 98, 101, 114, 58, 105, 113, 58, 114, 101, 103, 105, 115, 116, 101, 114]⟩, .string ⟨#[106, 97, 98, 98, 101, 114, 58, 105, 113, 58, 103, 97, 116, 101, 119, 97, 121]⟩, .string ⟨#[104, 116, 116, 112, 58, 47, 47, 106, 97, 98, 98, 101, 114, 46, 111, 114, 103, 47, 112, 114, 111, 116, 111, 99, 111, 108, 47, 100, 105, 115, 99, 111, 35, 105, 110, 102, 111]⟩, .string ⟨#[104, 116, 116, 112, 58, 47, 47, 106, 97, 98, 98, 101, 114, 46, 111, 114, 103, 47, 112, 114, 111, 116, 111, 99, 111, 108, 47, 100, 105, 115, 99, 111, 35, 105, 116, 101, 109, 115]⟩, .string ⟨#[106, 97, 98, 98, 101, 114, 58, 105, 113, 58, 108, 97, 115, 116]⟩] 9) = W0 at HB0 HR0 HS0 ⊢
  generalize hSB : w.heap.size + 1 + 1 = SB at HS0 ⊢
  clear hSB
  have hSl := heap_lt HS0.out
  go_wp2_with fail
  refine (new0_any ⟨#[104, 116, 116, 112, 58, 47, 47, 106, 97, 98, 98, 101, 114, 46, 111, 114, 103, 47, 112, 114, 111, 116, 111, 99, 111, 108, 47, 100, 105, 115, 99, 111, 35, 105, 110, 102, 111]⟩ ⟨#[113, 117, 101, 114, 121]⟩ _ (by decide) (by decide)).mono ?_
  rintro r w1 ⟨aA, cA, rfl, hin, hb⟩
  have HB1 := Lib.hid (more HB0.out (Nat.le_refl _) hb)
  have HR1 := Lib.hid ((hb.block _ (heap_lt HR0.out)).trans HR0.out)
  have HS1 := Lib.hid ((hb.block _ (heap_lt HS0.out)).trans HS0.out)
  have HO := Lib.hid (fun W => Oe.bare hin (w.heap.size + 1) (fun b => w.heap.size < b) W)
  clear hb hin HB0 HR0 HS0 hSl
  simp only [newA, List.length_nil]
  have hb2 : Below w1.heap.size w1 (w1.alloc (.cells #[.string ⟨#[99, 97, 116, 101, 103, 111, 114, 121]⟩, .string ⟨#[103, 97, 116, 101, 119, 97, 121]⟩, .string ⟨#[116, 121, 112, 101]⟩, .string ⟨#[97, 105, 109]⟩] 9)) := (Below.refl _ w1).alloc (Nat.le_refl _) _
  have HB2 := Lib.hid (more HB1.out (Nat.le_refl _) hb2)
  have HR2 := Lib.hid ((hb2.block _ (heap_lt HR1.out)).trans HR1.out)
  have HS2 := Lib.hid ((hb2.block _ (heap_lt HS1.out)).trans HS1.out)
  have HN := Lib.hid (new_any ⟨#[104, 116, 116, 112, 58, 47, 47, 106, 97, 98, 98, 101, 114, 46, 111, 114, 103, 47, 112, 114, 111, 116, 111, 99, 111, 108, 47, 100, 105, 115, 99, 111, 35, 105, 110, 102, 111]⟩ ⟨#[105, 100, 101, 110, 116, 105, 116, 121]⟩ [⟨#[99, 97, 116, 101, 103, 111, 114, 121]⟩, ⟨#[103, 97, 116, 101, 119, 97, 121]⟩, ⟨#[116, 121, 112, 101]⟩, ⟨#[97, 105, 109]⟩] (some ⟨w1.heap.size, 0, none⟩) 4 (w1.alloc (.cells #[.string ⟨#[99, 97, 116, 101, 103, 111, 114, 121]⟩, .string ⟨#[103, 97, 116, 101, 119, 97, 121]⟩, .string ⟨#[116, 121, 112, 101]⟩, .string ⟨#[97, 105, 109]⟩] 9)) (by decide) (by decide) (by simp) (sz4 (by decide) (by decide) (by decide) (by decide)) (str_mem4 (box_new w1 _ _)))
  have hwl := heap_lt HR1.out
  clear hb2 HB1 HR1 HS1
  go_wp2_with fail
  refine HN.out.mono ?_
  rintro r w3 ⟨a3, c3, rfl, hin, hb⟩
  have HB3 := Lib.hid (more HB2.out (Nat.le_refl _) hb)
  have HR3 := Lib.hid ((hb.block _ (heap_lt HR2.out)).trans HR2.out)
  have HS3 := Lib.hid ((hb.block _ (heap_lt HS2.out)).trans HS2.out)
  have HI3 : Hid (InS (fun b => w.heap.size < b) w3 (.mk ⟨#[104, 116, 116, 112, 58, 47, 47, 106, 97, 98, 98, 101, 114, 46, 111, 114, 103, 47, 112, 114, 111, 116, 111, 99, 111, 108, 47, 100, 105, 115, 99, 111, 35, 105, 110, 102, 111]⟩ ⟨#[105, 100, 101, 110, 116, 105, 116, 121]⟩ (newA [⟨#[99, 97, 116, 101, 103, 111, 114, 121]⟩, ⟨#[103, 97, 116, 101, 119, 97, 121]⟩, ⟨#[116, 121, 112, 101]⟩, ⟨#[97, 105, 109]⟩]) ⟨#[]⟩ []) (.agg #[.string ⟨#[104, 116, 116, 112, 58, 47, 47, 106, 97, 98, 98, 101, 114, 46, 111, 114, 103, 47, 112, 114, 111, 116, 111, 99, 111, 108, 47, 100, 105, 115, 99, 111, 35, 105, 110, 102, 111]⟩, .string ⟨#[105, 100, 101, 110, 116, 105, 116, 121]⟩, .slice a3 (newA [⟨#[99, 97, 116, 101, 103, 111, 114, 121]⟩, ⟨#[103, 97, 116, 101, 119, 97, 121]⟩, ⟨#[116, 121, 112, 101]⟩, ⟨#[97, 105, 109]⟩]).length c3, .string ⟨#[]⟩, .slice none 0 0])) := hin.weak fun b _ h => by simp at h; omega
  clear hb hin HB2 HR2 HS2 HN hwl
  generalize hna : newA [⟨#[99, 97, 116, 101, 103, 111, 114, 121]⟩, ⟨#[103, 97, 116, 101, 119, 97, 121]⟩, ⟨#[116, 121, 112, 101]⟩, ⟨#[97, 105, 109]⟩] = na at HI3 ⊢
  have HNA := Lib.hid hna
  clear hna
  have hb4 : Below w3.heap.size w3 (w3.alloc (.cells #[.string ⟨#[104, 116, 116, 112, 58, 47, 47, 106, 97, 98, 98, 101, 114, 46, 111, 114, 103, 47, 112, 114, 111, 116, 111, 99, 111, 108, 47, 100, 105, 115, 99, 111, 35, 105, 110, 102, 111]⟩, .string ⟨#[105, 100, 101, 110, 116, 105, 116, 121]⟩, .slice a3 na.length c3, .string ⟨#[]⟩, .slice none 0 0] 30)) := (Below.refl _ w3).alloc (Nat.le_refl _) _
  have HB4 := Lib.hid (more HB3.out (Nat.le_refl _) hb4)
  have HR4 := Lib.hid ((hb4.block _ (heap_lt HR3.out)).trans HR3.out)
  have HS4 := Lib.hid ((hb4.block _ (heap_lt HS3.out)).trans HS3.out)
  have HKS := Lib.hid (ks_el (S := fun b => w.heap.size < b ∧ ob none 0 0 ≠ some b) (box_new w3 #[.string ⟨#[104, 116, 116, 112, 58, 47, 47, 106, 97, 98, 98, 101, 114, 46, 111, 114, 103, 47, 112, 114, 111, 116, 111, 99, 111, 108, 47, 100, 105, 115, 99, 111, 35, 105, 110, 102, 111]⟩, .string ⟨#[105, 100, 101, 110, 116, 105, 116, 121]⟩, .slice a3 na.length c3, .string ⟨#[]⟩, .slice none 0 0] 30) ⟨heap_lt HR3.out, fun e => by cases e⟩ ((HI3.out.stay hb4).weak fun _ _ h => ⟨h, fun e => by cases e⟩))
  clear hb4 HB3 HR3 HS3 HI3
  go_wp2_with fail
  refine (with_any (w.heap.size + 1) (fun b => w.heap.size < b) ⟨#[104, 116, 116, 112, 58, 47, 47, 106, 97, 98, 98, 101, 114, 46, 111, 114, 103, 47, 112, 114, 111, 116, 111, 99, 111, 108, 47, 100, 105, 115, 99, 111, 35, 105, 110, 102, 111]⟩ ⟨#[113, 117, 101, 114, 121]⟩ [] [] [.mk ⟨#[104, 116, 116, 112, 58, 47, 47, 106, 97, 98, 98, 101, 114, 46, 111, 114, 103, 47, 112, 114, 111, 116, 111, 99, 111, 108, 47, 100, 105, 115, 99, 111, 35, 105, 110, 102, 111]⟩ ⟨#[105, 100, 101, 110, 116, 105, 116, 121]⟩ na ⟨#[]⟩ []] aA none _ cA 0 1 _ (heap_lt HR4.out) (HO.out _) HKS.out (by simp)).mono ?_
  rintro r w5 ⟨a5, c5, rfl, ho, hg, hl0⟩
  have HF0 := Lib.hid (Fm.of (HB4.out.grown hg HB4.out.size (fun b e => by cases e)) (Nat.le_refl _) ((hg.block _ (heap_lt HR4.out) (fun e => by cases e)).trans HR4.out) ho (fun b _ h => h))
  have HS5 := Lib.hid ((Below.heap_alloc w5 (.cells #[.string ⟨#[104, 116, 116, 112, 58, 47, 47, 106, 97, 98, 98, 101, 114, 46, 111, 114, 103, 47, 112, 114, 111, 116, 111, 99, 111, 108, 47, 100, 105, 115, 99, 111, 35, 105, 110, 102, 111]⟩, .string ⟨#[113, 117, 101, 114, 121]⟩, .slice aA 0 cA, .string ⟨#[]⟩, .slice a5 ([] ++ [El.mk ⟨#[104, 116, 116, 112, 58, 47, 47, 106, 97, 98, 98, 101, 114, 46, 111, 114, 103, 47, 112, 114, 111, 116, 111, 99, 111, 108, 47, 100, 105, 115, 99, 111, 35, 105, 110, 102, 111]⟩ ⟨#[105, 100, 101, 110, 116, 105, 116, 121]⟩ na ⟨#[]⟩ []].map (reS ⟨#[104, 116, 116, 112, 58, 47, 47, 106, 97, 98, 98, 101, 114, 46, 111, 114, 103, 47, 112, 114, 111, 116, 111, 99, 111, 108, 47, 100, 105, 115, 99, 111, 35, 105, 110, 102, 111]⟩)).length c5] 30) _ (Nat.lt_of_lt_of_le (heap_lt HS4.out) hg.size)).trans ((hg.block _ (heap_lt HS4.out) (fun e => by cases e)).trans HS4.out))
  have hST : SB < w5.heap.size := Nat.lt_of_lt_of_le (heap_lt HS4.out) hg.size
  have hS0 := heap_lt HS4.out
  have HOS0 : Hid (ob a5 ([] ++ [El.mk ⟨#[104, 116, 116, 112, 58, 47, 47, 106, 97, 98, 98, 101, 114, 46, 111, 114, 103, 47, 112, 114, 111, 116, 111, 99, 111, 108, 47, 100, 105, 115, 99, 111, 35, 105, 110, 102, 111]⟩ ⟨#[105, 100, 101, 110, 116, 105, 116, 121]⟩ na ⟨#[]⟩ []].map (reS ⟨#[104, 116, 116, 112, 58, 47, 47, 106, 97, 98, 98, 101, 114, 46, 111, 114, 103, 47, 112, 114, 111, 116, 111, 99, 111, 108, 47, 100, 105, 115, 99, 111, 35, 105, 110, 102, 111]⟩)).length c5 ≠ some SB) := by
    intro e
    rcases hl0 with h | h
    · cases h.symm.trans e
    · have := h _ e; omega
  clear ho hg hl0 hS0 HO HKS HB4 HR4 HS4
  generalize hks : [] ++ [El.mk ⟨#[104, 116, 116, 112, 58, 47, 47, 106, 97, 98, 98, 101, 114, 46, 111, 114, 103, 47, 112, 114, 111, 116, 111, 99, 111, 108, 47, 100, 105, 115, 99, 111, 35, 105, 110, 102, 111]⟩ ⟨#[105, 100, 101, 110, 116, 105, 116, 121]⟩ na ⟨#[]⟩ []].map (reS ⟨#[104, 116, 116, 112, 58, 47, 47, 106, 97, 98, 98, 101, 114, 46, 111, 114, 103, 47, 112, 114, 111, 116, 111, 99, 111, 108, 47, 100, 105, 115, 99, 111, 35, 105, 110, 102, 111]⟩) = ks at HF0 HS5 HOS0 ⊢
  have HKI := Lib.hid hks
  have HKL : Hid (ks.length = 1) := by show _ = _; rw [← hks]; rfl
  clear hks
  go_upto_region 7 with fail
  generalize w5.alloc (.cells #[.string ⟨#[104, 116, 116, 112, 58, 47, 47, 106, 97, 98, 98, 101, 114, 46, 111, 114, 103, 47, 112, 114, 111, 116, 111, 99, 111, 108, 47, 100, 105, 115, 99, 111, 35, 105, 110, 102, 111]⟩, .string ⟨#[113, 117, 101, 114, 121]⟩, .slice aA 0 cA, .string ⟨#[]⟩, .slice a5 ks.length c5] 30) = W6 at HF0 HS5 ⊢
  generalize w5.heap.size = T at HF0 hST ⊢
  obtain ⟨L, hL⟩ : ∃ L : List ByteArray, L = [⟨#[106, 97, 98, 98, 101, 114, 58, 105, 113, 58, 114, 101, 103, 105, 115, 116, 101, 114]⟩, ⟨#[106, 97, 98, 98, 101, 114, 58, 105, 113, 58, 103, 97, 116, 101, 119, 97, 121]⟩, ⟨#[104, 116, 116, 112, 58, 47, 47, 106, 97, 98, 98, 101, 114, 46, 111, 114, 103, 47, 112, 114, 111, 116, 111, 99, 111, 108, 47, 100, 105, 115, 99, 111, 35, 105, 110, 102, 111]⟩, ⟨#[104, 116, 116, 112, 58, 47, 47, 106, 97, 98, 98, 101, 114, 46, 111, 114, 103, 47, 112, 114, 111, 116, 111, 99, 111, 108, 47, 100, 105, 115, 99, 111, 35, 105, 116, 101, 109, 115]⟩, ⟨#[106, 97, 98, 98, 101, 114, 58, 105, 113, 58, 108, 97, 115, 116]⟩] := ⟨_, rfl⟩
  have HLS : Hid (∀ i (h : i < L.length), W6.cell? ⟨SB, i, none⟩ = some (.string L[i])) := by
    subst hL
    intro i hi
    have hi2 : i < 5 := hi
    rw [Lib.cell_of_heap HS5.out]
    have hc : i = 0 ∨ i = 1 ∨ i = 2 ∨ i = 3 ∨ i = 4 := by omega
    rcases hc with rfl | rfl | rfl | rfl | rfl <;> rfl
  have hLn : L.length = 5 := by rw [hL]; rfl
  have HSZ : Hid (∀ s ∈ L, s.size ≤ 1048576) := by
    subst hL
    show ∀ s ∈ ([⟨#[106, 97, 98, 98, 101, 114, 58, 105, 113, 58, 114, 101, 103, 105, 115, 116, 101, 114]⟩, ⟨#[106, 97, 98, 98, 101, 114, 58, 105, 113, 58, 103, 97, 116, 101, 119, 97, 121]⟩, ⟨#[104, 116, 116, 112, 58, 47, 47, 106, 97, 98, 98, 101, 114, 46, 111, 114, 103, 47, 112, 114, 111, 116, 111, 99, 111, 108, 47, 100, 105, 115, 99, 111, 35, 105, 110, 102, 111]⟩, ⟨#[104, 116, 116, 112, 58, 47, 47, 106, 97, 98, 98, 101, 114, 46, 111, 114, 103, 47, 112, 114, 111, 116, 111, 99, 111, 108, 47, 100, 105, 115, 99, 111, 35, 105, 116, 101, 109, 115]⟩, ⟨#[106, 97, 98, 98, 101, 114, 58, 105, 113, 58, 108, 97, 115, 116]⟩] : List ByteArray), s.size ≤ 1048576
    decide
  have HLL := Lib.hid hL
  clear hL
  have hSl := heap_lt HS5.out
  have HW6 := Lib.hid (Below.refl W6.heap.size W6)
  clear HS5
  go_wp2_with fail
  go_loopw [21] (fun i wr => ∃ (k : Nat) (a : Option Addr) (c : Nat), i = .int .i64 k ∧ k ≤ 5 ∧ Hid (Fm w w.heap.size T ⟨#[104, 116, 116, 112, 58, 47, 47, 106, 97, 98, 98, 101, 114, 46, 111, 114, 103, 47, 112, 114, 111, 116, 111, 99, 111, 108, 47, 100, 105, 115, 99, 111, 35, 105, 110, 102, 111]⟩ ⟨#[113, 117, 101, 114, 121]⟩ aA cA (ks ++ (L.take k).map featE) a c wr) ∧ Hid (ob a (ks ++ (L.take k).map featE).length c ≠ some SB) ∧ Hid (∀ i (h : i < L.length), wr.cell? ⟨SB, i, none⟩ = some (.string L[i]))) (fun i _ => 5 - (RowKit.intOf i).toNat)
  case atStart => exact ⟨0, a5, c5, rfl, Nat.zero_le _, by (show Fm _ _ _ _ _ _ _ _ _ _ _); simpa using HF0.out, by (show ob _ _ _ ≠ _); simpa using HOS0.out, HLS.out⟩
  case round =>
    clear HF0 HLS HW6 HOS0
    obtain ⟨k, a, c, rfl, hk, HF, HOS, HLS⟩ := hrel
    by_cases hlt : k < 5
    · have hs := HLS.out k (by omega)
      have hss := HSZ.out _ (List.getElem_mem (show k < L.length by omega))
      have HTK : Hid (ks ++ (L.take (k + 1)).map featE = (ks ++ (L.take k).map featE) ++ [featE (L[k]'(by omega))]) := by
        show _ = _
        rw [List.take_succ_eq_append_getElem (show k < L.length by omega), List.map_append, List.append_assoc]; rfl
      have HKN : Hid ((ks ++ (L.take k).map featE).length = k + 1) := by
        show _ = _
        rw [List.length_append, List.length_map, List.length_take, HKL.out]; omega
      generalize L[k]'(by omega) = s at hs hss HTK
      generalize ks ++ (L.take k).map featE = kk at HF HTK HKN HOS
      have hkn : kk.length ≤ 100 := by have := HKN.out; omega
      go_upto_region 10 with fail
      clear hs
      refine region_psi 5 (fun j => [25, 26, 27, 28, 29].getD j 0) (psL [Pr.eq (.agg #[.string ⟨#[104, 116, 116, 112, 58, 47, 47, 106, 97, 98, 98, 101, 114, 46, 111, 114, 103, 47, 112, 114, 111, 116, 111, 99, 111, 108, 47, 100, 105, 115, 99, 111, 35, 105, 110, 102, 111]⟩, .string ⟨#[113, 117, 101, 114, 121]⟩, .slice aA 0 cA, .string ⟨#[]⟩, .slice a kk.length c]), Pr.eq (.string s), Pr.blk (wr.heap.size) 2 #[.string ⟨#[118, 97, 114]⟩, .string s] 9, Pr.el wr.heap.size (featE s), Pr.row (wr.heap.size) (featE s)]) (by kernel_rfl) (by kernel_rfl) (by kernel_rfl) (by kernel_rfl) (by decide) (by kernel_rfl) (by kernel_rfl) (psL_mono _) ?_ ?_
      · intro i o hi ho q W hsz hout hbel hdep
        obtain ⟨x0, x1, x2, x3, x4⟩ := (HF.out.st hbel).load
        have hc : i = 0 ∨ i = 1 ∨ i = 2 ∨ i = 3 ∨ i = 4 := by omega
        rcases hc with rfl | rfl | rfl | rfl | rfl
        · -- 0
          cases ho
          have e6 : q.eval (.tmp 6) = .pointer (some ⟨T, 0, none⟩) := (hout 6 (by decide)).trans rfl
          refine gives_read (v := .agg #[.string ⟨#[104, 116, 116, 112, 58, 47, 47, 106, 97, 98, 98, 101, 114, 46, 111, 114, 103, 47, 112, 114, 111, 116, 111, 99, 111, 108, 47, 100, 105, 115, 99, 111, 35, 105, 110, 102, 111]⟩, .string ⟨#[113, 117, 101, 114, 121]⟩, .slice aA 0 cA, .string ⟨#[]⟩, .slice a kk.length c]) ?_ rfl
          unfold execOp
          dsimp only
          rw [e6]
          go_simp
        · -- 1
          cases ho
          have e8 : q.eval (.tmp 8) = .string s := (hout 8 (by decide)).trans rfl
          refine gives_read (v := .string s) ?_ rfl
          unfold execOp
          dsimp only
          rw [e8]
          go_simp
        · -- 2
          cases ho
          have e26 : q.eval (.tmp 26) = .string s := hdep ⟨1, .data⟩ (by simp) rfl (by decide)
          refine gives_run (W' := W.alloc (.cells #[.string ⟨#[118, 97, 114]⟩, .string s] 9)) (v := .slice (some ⟨W.heap.size, 0, none⟩) 2 2) ?_ ((Below.refl _ W).alloc (Nat.le_refl _) _) (blk_new (by have := hbel.size; omega))
          unfold execOp
          dsimp only
          simp only [List.map_toArray, List.map_cons, List.map_nil, e26]
          go_simp
        · -- 3
          cases ho
          obtain ⟨S, e27, hSN, hS⟩ : ∃ S, q.eval (.tmp 27) = .slice (some ⟨S, 0, none⟩) 2 2 ∧ wr.heap.size ≤ S ∧ W.heap[S]? = some (.cells #[.string ⟨#[118, 97, 114]⟩, .string s] 9 (0, 0)) := hdep ⟨2, .data⟩ (by simp) rfl (by decide)
          clear hSN
          refine gives_call (f := 31) (args := #[.string ⟨#[104, 116, 116, 112, 58, 47, 47, 106, 97, 98, 98, 101, 114, 46, 111, 114, 103, 47, 112, 114, 111, 116, 111, 99, 111, 108, 47, 100, 105, 115, 99, 111, 35, 105, 110, 102, 111]⟩, .string ⟨#[102, 101, 97, 116, 117, 114, 101]⟩, .slice (some ⟨S, 0, none⟩) 2 2]) ?_ ((new_any ⟨#[104, 116, 116, 112, 58, 47, 47, 106, 97, 98, 98, 101, 114, 46, 111, 114, 103, 47, 112, 114, 111, 116, 111, 99, 111, 108, 47, 100, 105, 115, 99, 111, 35, 105, 110, 102, 111]⟩ ⟨#[102, 101, 97, 116, 117, 114, 101]⟩ [⟨#[118, 97, 114]⟩, s] (some ⟨S, 0, none⟩) 2 W (by decide) (by decide) (by simp) (sz2 (by decide) hss) (str_mem2 hS)).mono ?_)
          · unfold execOp
            dsimp only
            simp only [resolve, List.map_toArray, List.map_cons, List.map_nil, e27]
            go_simp
          · rintro e W' ⟨a7, c7, rfl, hin, hb⟩
            exact ⟨_, rfl, hb, a7, c7, none, 0, rfl, hin.weak fun _ _ h => Nat.le_trans hbel.size h⟩
        · -- 4
          cases ho
          obtain ⟨aA, cA, aK, cK, e28, hE⟩ : ∃ aA cA aK cK, q.eval (.tmp 28) = .agg #[.string ((featE s)).sp, .string ((featE s)).nm, .slice aA ((featE s)).atr.length cA, .string ((featE s)).tx, .slice aK ((featE s)).ks.length cK] ∧ InS (fun b => wr.heap.size ≤ b) W (featE s) (q.eval (.tmp 28)) := hdep ⟨3, .data⟩ (by simp) rfl (by decide)
          rw [e28] at hE
          refine gives_run (W' := W.alloc (.cells #[.string ((featE s)).sp, .string ((featE s)).nm, .slice aA ((featE s)).atr.length cA, .string ((featE s)).tx, .slice aK ((featE s)).ks.length cK] 30)) (v := .slice (some ⟨W.heap.size, 0, none⟩) 1 1) ?_ ((Below.refl _ W).alloc (Nat.le_refl _) _) (row_new (by have := hbel.size; omega) hE)
          unfold execOp
          dsimp only
          simp only [List.map_toArray, List.map_cons, List.map_nil, e28]
          go_simp
      · intro q W hq hbel hv
        have e25 : q.eval (.tmp 25) = .agg #[.string ⟨#[104, 116, 116, 112, 58, 47, 47, 106, 97, 98, 98, 101, 114, 46, 111, 114, 103, 47, 112, 114, 111, 116, 111, 99, 111, 108, 47, 100, 105, 115, 99, 111, 35, 105, 110, 102, 111]⟩, .string ⟨#[113, 117, 101, 114, 121]⟩, .slice aA 0 cA, .string ⟨#[]⟩, .slice a kk.length c] := hv 0 (by decide)
        obtain ⟨B, v0, v1, v2, v3, v4, e29, hB, hBB, hBI⟩ : ∃ B v0 v1 v2 v3 v4, q.eval (.tmp 29) = .slice (some ⟨B, 0, none⟩) 1 1 ∧ wr.heap.size ≤ B ∧ W.heap[B]? = some (.cells #[v0, v1, v2, v3, v4] 30 (0, 0)) ∧ InS (fun b => wr.heap.size ≤ b) W (featE s) (.agg #[v0, v1, v2, v3, v4]) := hv 4 (by decide)
        have HFW := Lib.hid (HF.out.st hbel)
        have CW := Lib.hid (HFW.out.with_ (aQ := some ⟨B, 0, none⟩) (cQ := 1) (qs := [(featE s)]) wr (heap_lt HF.out.tb) (fun b e => (HF.out.oe.lt b e).2) (ks_el hBB hB hBI) (by simp; omega))
        have HLW : Hid (∀ i (h : i < L.length), W.cell? ⟨SB, i, none⟩ = some (.string L[i])) := fun i h => (hbel.cell (p := ⟨SB, i, none⟩) (World.block_lt_of_cell? _ _ (HLS.out i h))).trans (HLS.out i h)
        have hq2 : q = canonL q [25, 26, 27, 28, 29] _ := hq
        simp only [canonL] at hq2
        rw [e25, e29] at hq2
        clear hq hv e25 e29
        generalize q.eval (.tmp 26) = u26 at hq2
        generalize q.eval (.tmp 27) = u27 at hq2
        generalize q.eval (.tmp 28) = u28 at hq2
        subst hq2
        clear hB hBB hBI HF HLS hbel
        go_wp2_with fail
        refine CW.out.mono ?_
        rintro r w7 ⟨a7, c7, rfl, ho, hg, hl⟩
        have hr : [(featE s)].map (reS ⟨#[104, 116, 116, 112, 58, 47, 47, 106, 97, 98, 98, 101, 114, 46, 111, 114, 103, 47, 112, 114, 111, 116, 111, 99, 111, 108, 47, 100, 105, 115, 99, 111, 35, 105, 110, 102, 111]⟩) = [(featE s)] := rfl
        rw [hr] at ho hl
        rw [hr]
        rw [← HTK.out] at ho hl
        rw [← HTK.out]
        have HF2 := Lib.hid (HFW.out.put ho hg hl)
        have ht2 := (hg.block _ (heap_lt HFW.out.tb) (fun e => HFW.out.nt e.symm)).trans HFW.out.tb
        have hob : ∀ b, ob a kk.length c = some b → w.heap.size < b := fun b e => (HFW.out.oe.lt b e).1
        have HOS2 : Hid (ob a7 (ks ++ (L.take (k + 1)).map featE).length c7 ≠ some SB) := by
          intro e
          rcases hl with h | h
          · exact HOS.out (h.symm.trans e)
          · have := h _ e; have := HFW.out.bel.size; have := heap_lt HFW.out.tb; omega
        have HLS2 : Hid (∀ i (h : i < L.length), (((((w7.setCell ⟨T, 0, none⟩ (.string ⟨#[104, 116, 116, 112, 58, 47, 47, 106, 97, 98, 98, 101, 114, 46, 111, 114, 103, 47, 112, 114, 111, 116, 111, 99, 111, 108, 47, 100, 105, 115, 99, 111, 35, 105, 110, 102, 111]⟩)).setCell ⟨T, 1, none⟩ (.string ⟨#[113, 117, 101, 114, 121]⟩)).setCell ⟨T, 2, none⟩ (.slice aA 0 cA)).setCell ⟨T, 3, none⟩ (.string ⟨#[]⟩)).setCell ⟨T, 4, none⟩ (.slice a7 (ks ++ (L.take (k + 1)).map featE).length c7)).cell? ⟨SB, i, none⟩ = some (.string L[i])) := fun i h => by
          obtain ⟨W3, hW3, q1, q2, _, _⟩ := st5 ht2 (.string ⟨#[104, 116, 116, 112, 58, 47, 47, 106, 97, 98, 98, 101, 114, 46, 111, 114, 103, 47, 112, 114, 111, 116, 111, 99, 111, 108, 47, 100, 105, 115, 99, 111, 35, 105, 110, 102, 111]⟩) (.string ⟨#[113, 117, 101, 114, 121]⟩) (.slice aA 0 cA) (.string ⟨#[]⟩) (.slice a7 (ks ++ (L.take (k + 1)).map featE).length c7) rfl
          rw [← hW3]
          exact (World.cell?_of_block (a := ⟨SB, i, none⟩) (q2 SB (by omega))).trans ((World.cell?_of_block (a := ⟨SB, i, none⟩) (hg.block SB (World.block_lt_of_cell? _ _ (HLW.out i h)) (fun e => HOS.out e.symm))).trans (HLW.out i h))
        obtain ⟨z0, z1, z2, z3, z4⟩ := bx5 ht2
        have f0 := Lib.frozen_of_heap ht2 0
        have f1 := Lib.frozen_of_heap ht2 1
        have f2 := Lib.frozen_of_heap ht2 2
        have f3 := Lib.frozen_of_heap ht2 3
        have f4 := Lib.frozen_of_heap ht2 4
        clear ht2 hob ho hg hl hr CW HFW HLW HOS HTK HKN
        skip
        generalize hk2 : (ks ++ (L.take (k + 1)).map featE) = k2 at HF2 HOS2 HLS2 ⊢
        have HK2 := Lib.hid hk2
        clear hk2
        go_upto_region 11 with fail
        clear z0 z1 z2 z3 z4 f0 f1 f2 f3 f4
        generalize ((((w7.setCell ⟨T, 0, none⟩ (.string ⟨#[104, 116, 116, 112, 58, 47, 47, 106, 97, 98, 98, 101, 114, 46, 111, 114, 103, 47, 112, 114, 111, 116, 111, 99, 111, 108, 47, 100, 105, 115, 99, 111, 35, 105, 110, 102, 111]⟩)).setCell ⟨T, 1, none⟩ (.string ⟨#[113, 117, 101, 114, 121]⟩)).setCell ⟨T, 2, none⟩ (.slice aA 0 cA)).setCell ⟨T, 3, none⟩ (.string ⟨#[]⟩)).setCell ⟨T, 4, none⟩ (.slice a7 k2.length c7) = W8 at HF2 HLS2 ⊢
        go_wp2_with fail
        go_roundw
        case rel => exact ⟨k + 1, _, _, by go_num, by omega, by (show Fm _ _ _ _ _ _ _ _ _ _ _); rw [HK2.out]; exact HF2.out, by (show ob _ _ _ ≠ _); rw [HK2.out]; exact HOS2.out, HLS2.out⟩
        case measure => simp [RowKit.intOf]; omega
    · obtain rfl : k = 5 := by omega
      have HE : Hid (infoE true = .mk ⟨#[104, 116, 116, 112, 58, 47, 47, 106, 97, 98, 98, 101, 114, 46, 111, 114, 103, 47, 112, 114, 111, 116, 111, 99, 111, 108, 47, 100, 105, 115, 99, 111, 35, 105, 110, 102, 111]⟩ ⟨#[113, 117, 101, 114, 121]⟩ [] ⟨#[]⟩ (ks ++ (L.take 5).map featE)) := by
        show _ = _
        rw [← HKI.out, HLL.out, ← HNA.out]; rfl
      generalize ks ++ (L.take 5).map featE = kk at HF HE
      obtain ⟨x0, x1, x2, x3, x4⟩ := HF.out.load
      obtain ⟨q0, q1, q2, q3, q4⟩ := bx5 HF.out.rb
      have p0 := Lib.frozen_of_heap HF.out.rb 0
      have p1 := Lib.frozen_of_heap HF.out.rb 1
      have p2 := Lib.frozen_of_heap HF.out.rb 2
      have p3 := Lib.frozen_of_heap HF.out.rb 3
      have p4 := Lib.frozen_of_heap HF.out.rb 4
      clear HOS HLS
      go_wp2_with fail
      refine bodyPost_ret (v := .agg #[.string ⟨#[104, 116, 116, 112, 58, 47, 47, 106, 97, 98, 98, 101, 114, 46, 111, 114, 103, 47, 112, 114, 111, 116, 111, 99, 111, 108, 47, 100, 105, 115, 99, 111, 35, 105, 110, 102, 111]⟩, .string ⟨#[113, 117, 101, 114, 121]⟩, .slice aA 0 cA, .string ⟨#[]⟩, .slice a kk.length c]) (by simp [results, Tryz.results15, go_sem, q0, q1, q2, q3, q4]) rfl ?_
      rw [HE.out]
      have hf := HF.out.fin (u0 := .string ⟨#[104, 116, 116, 112, 58, 47, 47, 106, 97, 98, 98, 101, 114, 46, 111, 114, 103, 47, 112, 114, 111, 116, 111, 99, 111, 108, 47, 100, 105, 115, 99, 111, 35, 105, 110, 102, 111]⟩) (u1 := .string ⟨#[113, 117, 101, 114, 121]⟩) (u2 := .slice aA 0 cA) (u3 := .string ⟨#[]⟩) (u4 := .slice a kk.length c)
      exact ⟨_, rfl, hf.1, hf.2⟩
set_option maxRecDepth 100000 in
set_option maxHeartbeats 8000000 in
theorem info_f (w : World) : Calls Tryz.prog 15 #[.bool false] w (ElP (infoE false) w) := by
  have HB0 : Hid (Below w.heap.size w ((w.alloc (.cells #[.string ⟨#[]⟩, .string ⟨#[]⟩, .slice none 0 0, .string ⟨#[]⟩, .slice none 0 0] 30)).alloc (.cells #[.string ⟨#[104, 116, 116, 112, 58, 47, 47, 106, 97, 98, 98, 101, 114, 46, 111, 114, 103, 47, 112, 114, 111, 116, 111, 99, 111, 108, 47, 100, 105, 115, 99, 111, 35, 105, 110, 102, 111]⟩, .string ⟨#[106, 97, 98, 98, 101, 114, 58, 105, 113, 58, 108, 97, 115, 116]⟩] 9))) := (((Below.refl _ w).alloc (Nat.le_refl _) _).alloc (by simp) _)
  have HR0 : Hid (((w.alloc (.cells #[.string ⟨#[]⟩, .string ⟨#[]⟩, .slice none 0 0, .string ⟨#[]⟩, .slice none 0 0] 30)).alloc (.cells #[.string ⟨#[104, 116, 116, 112, 58, 47, 47, 106, 97, 98, 98, 101, 114, 46, 111, 114, 103, 47, 112, 114, 111, 116, 111, 99, 111, 108, 47, 100, 105, 115, 99, 111, 35, 105, 110, 102, 111]⟩, .string ⟨#[106, 97, 98, 98, 101, 114, 58, 105, 113, 58, 108, 97, 115, 116]⟩] 9)).heap[w.heap.size]? = some (.cells #[.string ⟨#[]⟩, .string ⟨#[]⟩, .slice none 0 0, .string ⟨#[]⟩, .slice none 0 0] 30 (0, 0))) := (Below.heap_alloc _ _ _ (by simp)).trans (box_new w _ _)
  have HS0 : Hid (((w.alloc (.cells #[.string ⟨#[]⟩, .string ⟨#[]⟩, .slice none 0 0, .string ⟨#[]⟩, .slice none 0 0] 30)).alloc (.cells #[.string ⟨#[104, 116, 116, 112, 58, 47, 47, 106, 97, 98, 98, 101, 114, 46, 111, 114, 103, 47, 112, 114, 111, 116, 111, 99, 111, 108, 47, 100, 105, 115, 99, 111, 35, 105, 110, 102, 111]⟩, .string ⟨#[106, 97, 98, 98, 101, 114, 58, 105, 113, 58, 108, 97, 115, 116]⟩] 9)).heap[w.heap.size + 1]? = some (.cells #[.string ⟨#[104, 116, 116, 112, 58, 47, 47, 106, 97, 98, 98, 101, 114, 46, 111, 114, 103, 47, 112, 114, 111, 116, 111, 99, 111, 108, 47, 100, 105, 115, 99, 111, 35, 105, 110, 102, 111]⟩, .string ⟨#[106, 97, 98, 98, 101, 114, 58, 105, 113, 58, 108, 97, 115, 116]⟩] 9 (0, 0))) := by
    have := box_new (w.alloc (.cells #[.string ⟨#[]⟩, .string ⟨#[]⟩, .slice none 0 0, .string ⟨#[]⟩, .slice none 0 0] 30)) #[.string ⟨#[104, 116, 116, 112, 58, 47, 47, 106, 97, 98, 98, 101, 114, 46, 111, 114, 103, 47, 112, 114, 111, 116, 111, 99, 111, 108, 47, 100, 105, 115, 99, 111, 35, 105, 110, 102, 111]⟩, .string ⟨#[106, 97, 98, 98, 101, 114, 58, 105, 113, 58, 108, 97, 115, 116]⟩] 9
    show _ = _
    simpa using this
  go_enter Tryz.func15, Tryz.ntmps15
  go_upto_region 6 with fail
  generalize (w.alloc (.cells #[.string ⟨#[]⟩, .string ⟨#[]⟩, .slice none 0 0, .string ⟨#[]⟩, .slice none 0 0] 30)).alloc (.cells #[.string ⟨#[104, 116, 116, 112, 58, 47, 47, 106, 97, 98, 98, 101, 114, 46, 111, 114, 103, 47, 112, 114, 111, 116, 111, 99, 111, 108, 47, 100, 105, 115, 99, 111, 35, 105, 110, 102, 111]⟩, .string ⟨#[106, 97, 98, 98, 101, 114, 58, 105, 113, 58, 108, 97, 115, 116]⟩] 9) = W0 at HB0 HR0 HS0 ⊢
  generalize hSB : w.heap.size + 1 = SB at HS0 ⊢
  clear hSB
  have hSl := heap_lt HS0.out
  go_wp2_with fail
  refine (new0_any ⟨#[104, 116, 116, 112, 58, 47, 47, 106, 97, 98, 98, 101, 114, 46, 111, 114, 103, 47, 112, 114, 111, 116, 111, 99, 111, 108, 47, 100, 105, 115, 99, 111, 35, 105, 110, 102, 111]⟩ ⟨#[113, 117, 101, 114, 121]⟩ _ (by decide) (by decide)).mono ?_
  rintro r w1 ⟨aA, cA, rfl, hin, hb⟩
  have HB1 := Lib.hid (more HB0.out (Nat.le_refl _) hb)
  have HR1 := Lib.hid ((hb.block _ (heap_lt HR0.out)).trans HR0.out)
  have HS1 := Lib.hid ((hb.block _ (heap_lt HS0.out)).trans HS0.out)
  have HO := Lib.hid (fun W => Oe.bare hin (w.heap.size + 1) (fun b => w.heap.size < b) W)
  clear hb hin HB0 HR0 HS0 hSl
  simp only [newA, List.length_nil]
  have hb2 : Below w1.heap.size w1 (w1.alloc (.cells #[.string ⟨#[99, 97, 116, 101, 103, 111, 114, 121]⟩, .string ⟨#[99, 108, 105, 101, 110, 116]⟩, .string ⟨#[116, 121, 112, 101]⟩, .string ⟨#[112, 99]⟩] 9)) := (Below.refl _ w1).alloc (Nat.le_refl _) _
  have HB2 := Lib.hid (more HB1.out (Nat.le_refl _) hb2)
  have HR2 := Lib.hid ((hb2.block _ (heap_lt HR1.out)).trans HR1.out)
  have HS2 := Lib.hid ((hb2.block _ (heap_lt HS1.out)).trans HS1.out)
  have HN := Lib.hid (new_any ⟨#[104, 116, 116, 112, 58, 47, 47, 106, 97, 98, 98, 101, 114, 46, 111, 114, 103, 47, 112, 114, 111, 116, 111, 99, 111, 108, 47, 100, 105, 115, 99, 111, 35, 105, 110, 102, 111]⟩ ⟨#[105, 100, 101, 110, 116, 105, 116, 121]⟩ [⟨#[99, 97, 116, 101, 103, 111, 114, 121]⟩, ⟨#[99, 108, 105, 101, 110, 116]⟩, ⟨#[116, 121, 112, 101]⟩, ⟨#[112, 99]⟩] (some ⟨w1.heap.size, 0, none⟩) 4 (w1.alloc (.cells #[.string ⟨#[99, 97, 116, 101, 103, 111, 114, 121]⟩, .string ⟨#[99, 108, 105, 101, 110, 116]⟩, .string ⟨#[116, 121, 112, 101]⟩, .string ⟨#[112, 99]⟩] 9)) (by decide) (by decide) (by simp) (sz4 (by decide) (by decide) (by decide) (by decide)) (str_mem4 (box_new w1 _ _)))
  have hwl := heap_lt HR1.out
  clear hb2 HB1 HR1 HS1
  go_wp2_with fail
  refine HN.out.mono ?_
  rintro r w3 ⟨a3, c3, rfl, hin, hb⟩
  have HB3 := Lib.hid (more HB2.out (Nat.le_refl _) hb)
  have HR3 := Lib.hid ((hb.block _ (heap_lt HR2.out)).trans HR2.out)
  have HS3 := Lib.hid ((hb.block _ (heap_lt HS2.out)).trans HS2.out)
  have HI3 : Hid (InS (fun b => w.heap.size < b) w3 (.mk ⟨#[104, 116, 116, 112, 58, 47, 47, 106, 97, 98, 98, 101, 114, 46, 111, 114, 103, 47, 112, 114, 111, 116, 111, 99, 111, 108, 47, 100, 105, 115, 99, 111, 35, 105, 110, 102, 111]⟩ ⟨#[105, 100, 101, 110, 116, 105, 116, 121]⟩ (newA [⟨#[99, 97, 116, 101, 103, 111, 114, 121]⟩, ⟨#[99, 108, 105, 101, 110, 116]⟩, ⟨#[116, 121, 112, 101]⟩, ⟨#[112, 99]⟩]) ⟨#[]⟩ []) (.agg #[.string ⟨#[104, 116, 116, 112, 58, 47, 47, 106, 97, 98, 98, 101, 114, 46, 111, 114, 103, 47, 112, 114, 111, 116, 111, 99, 111, 108, 47, 100, 105, 115, 99, 111, 35, 105, 110, 102, 111]⟩, .string ⟨#[105, 100, 101, 110, 116, 105, 116, 121]⟩, .slice a3 (newA [⟨#[99, 97, 116, 101, 103, 111, 114, 121]⟩, ⟨#[99, 108, 105, 101, 110, 116]⟩, ⟨#[116, 121, 112, 101]⟩, ⟨#[112, 99]⟩]).length c3, .string ⟨#[]⟩, .slice none 0 0])) := hin.weak fun b _ h => by simp at h; omega
  clear hb hin HB2 HR2 HS2 HN hwl
  generalize hna : newA [⟨#[99, 97, 116, 101, 103, 111, 114, 121]⟩, ⟨#[99, 108, 105, 101, 110, 116]⟩, ⟨#[116, 121, 112, 101]⟩, ⟨#[112, 99]⟩] = na at HI3 ⊢
  have HNA := Lib.hid hna
  clear hna
  have hb4 : Below w3.heap.size w3 (w3.alloc (.cells #[.string ⟨#[104, 116, 116, 112, 58, 47, 47, 106, 97, 98, 98, 101, 114, 46, 111, 114, 103, 47, 112, 114, 111, 116, 111, 99, 111, 108, 47, 100, 105, 115, 99, 111, 35, 105, 110, 102, 111]⟩, .string ⟨#[105, 100, 101, 110, 116, 105, 116, 121]⟩, .slice a3 na.length c3, .string ⟨#[]⟩, .slice none 0 0] 30)) := (Below.refl _ w3).alloc (Nat.le_refl _) _
  have HB4 := Lib.hid (more HB3.out (Nat.le_refl _) hb4)
  have HR4 := Lib.hid ((hb4.block _ (heap_lt HR3.out)).trans HR3.out)
  have HS4 := Lib.hid ((hb4.block _ (heap_lt HS3.out)).trans HS3.out)
  have HKS := Lib.hid (ks_el (S := fun b => w.heap.size < b ∧ ob none 0 0 ≠ some b) (box_new w3 #[.string ⟨#[104, 116, 116, 112, 58, 47, 47, 106, 97, 98, 98, 101, 114, 46, 111, 114, 103, 47, 112, 114, 111, 116, 111, 99, 111, 108, 47, 100, 105, 115, 99, 111, 35, 105, 110, 102, 111]⟩, .string ⟨#[105, 100, 101, 110, 116, 105, 116, 121]⟩, .slice a3 na.length c3, .string ⟨#[]⟩, .slice none 0 0] 30) ⟨heap_lt HR3.out, fun e => by cases e⟩ ((HI3.out.stay hb4).weak fun _ _ h => ⟨h, fun e => by cases e⟩))
  clear hb4 HB3 HR3 HS3 HI3
  go_wp2_with fail
  refine (with_any (w.heap.size + 1) (fun b => w.heap.size < b) ⟨#[104, 116, 116, 112, 58, 47, 47, 106, 97, 98, 98, 101, 114, 46, 111, 114, 103, 47, 112, 114, 111, 116, 111, 99, 111, 108, 47, 100, 105, 115, 99, 111, 35, 105, 110, 102, 111]⟩ ⟨#[113, 117, 101, 114, 121]⟩ [] [] [.mk ⟨#[104, 116, 116, 112, 58, 47, 47, 106, 97, 98, 98, 101, 114, 46, 111, 114, 103, 47, 112, 114, 111, 116, 111, 99, 111, 108, 47, 100, 105, 115, 99, 111, 35, 105, 110, 102, 111]⟩ ⟨#[105, 100, 101, 110, 116, 105, 116, 121]⟩ na ⟨#[]⟩ []] aA none _ cA 0 1 _ (heap_lt HR4.out) (HO.out _) HKS.out (by simp)).mono ?_
  rintro r w5 ⟨a5, c5, rfl, ho, hg, hl0⟩
  have HF0 := Lib.hid (Fm.of (HB4.out.grown hg HB4.out.size (fun b e => by cases e)) (Nat.le_refl _) ((hg.block _ (heap_lt HR4.out) (fun e => by cases e)).trans HR4.out) ho (fun b _ h => h))
  have HS5 := Lib.hid ((Below.heap_alloc w5 (.cells #[.string ⟨#[104, 116, 116, 112, 58, 47, 47, 106, 97, 98, 98, 101, 114, 46, 111, 114, 103, 47, 112, 114, 111, 116, 111, 99, 111, 108, 47, 100, 105, 115, 99, 111, 35, 105, 110, 102, 111]⟩, .string ⟨#[113, 117, 101, 114, 121]⟩, .slice aA 0 cA, .string ⟨#[]⟩, .slice a5 ([] ++ [El.mk ⟨#[104, 116, 116, 112, 58, 47, 47, 106, 97, 98, 98, 101, 114, 46, 111, 114, 103, 47, 112, 114, 111, 116, 111, 99, 111, 108, 47, 100, 105, 115, 99, 111, 35, 105, 110, 102, 111]⟩ ⟨#[105, 100, 101, 110, 116, 105, 116, 121]⟩ na ⟨#[]⟩ []].map (reS ⟨#[104, 116, 116, 112, 58, 47, 47, 106, 97, 98, 98, 101, 114, 46, 111, 114, 103, 47, 112, 114, 111, 116, 111, 99, 111, 108, 47, 100, 105, 115, 99, 111, 35, 105, 110, 102, 111]⟩)).length c5] 30) _ (Nat.lt_of_lt_of_le (heap_lt HS4.out) hg.size)).trans ((hg.block _ (heap_lt HS4.out) (fun e => by cases e)).trans HS4.out))
  have hST : SB < w5.heap.size := Nat.lt_of_lt_of_le (heap_lt HS4.out) hg.size
  have hS0 := heap_lt HS4.out
  have HOS0 : Hid (ob a5 ([] ++ [El.mk ⟨#[104, 116, 116, 112, 58, 47, 47, 106, 97, 98, 98, 101, 114, 46, 111, 114, 103, 47, 112, 114, 111, 116, 111, 99, 111, 108, 47, 100, 105, 115, 99, 111, 35, 105, 110, 102, 111]⟩ ⟨#[105, 100, 101, 110, 116, 105, 116, 121]⟩ na ⟨#[]⟩ []].map (reS ⟨#[104, 116, 116, 112, 58, 47, 47, 106, 97, 98, 98, 101, 114, 46, 111, 114, 103, 47, 112, 114, 111, 116, 111, 99, 111, 108, 47, 100, 105, 115, 99, 111, 35, 105, 110, 102, 111]⟩)).length c5 ≠ some SB) := by
    intro e
    rcases hl0 with h | h
    · cases h.symm.trans e
    · have := h _ e; omega
  clear ho hg hl0 hS0 HO HKS HB4 HR4 HS4
  generalize hks : [] ++ [El.mk ⟨#[104, 116, 116, 112, 58, 47, 47, 106, 97, 98, 98, 101, 114, 46, 111, 114, 103, 47, 112, 114, 111, 116, 111, 99, 111, 108, 47, 100, 105, 115, 99, 111, 35, 105, 110, 102, 111]⟩ ⟨#[105, 100, 101, 110, 116, 105, 116, 121]⟩ na ⟨#[]⟩ []].map (reS ⟨#[104, 116, 116, 112, 58, 47, 47, 106, 97, 98, 98, 101, 114, 46, 111, 114, 103, 47, 112, 114, 111, 116, 111, 99, 111, 108, 47, 100, 105, 115, 99, 111, 35, 105, 110, 102, 111]⟩) = ks at HF0 HS5 HOS0 ⊢
  have HKI := Lib.hid hks
  have HKL : Hid (ks.length = 1) := by show _ = _; rw [← hks]; rfl
  clear hks
  go_upto_region 7 with fail
  generalize w5.alloc (.cells #[.string ⟨#[104, 116, 116, 112, 58, 47, 47, 106, 97, 98, 98, 101, 114, 46, 111, 114, 103, 47, 112, 114, 111, 116, 111, 99, 111, 108, 47, 100, 105, 115, 99, 111, 35, 105, 110, 102, 111]⟩, .string ⟨#[113, 117, 101, 114, 121]⟩, .slice aA 0 cA, .string ⟨#[]⟩, .slice a5 ks.length c5] 30) = W6 at HF0 HS5 ⊢
  generalize w5.heap.size = T at HF0 hST ⊢
  obtain ⟨L, hL⟩ : ∃ L : List ByteArray, L = [⟨#[104, 116, 116, 112, 58, 47, 47, 106, 97, 98, 98, 101, 114, 46, 111, 114, 103, 47, 112, 114, 111, 116, 111, 99, 111, 108, 47, 100, 105, 115, 99, 111, 35, 105, 110, 102, 111]⟩, ⟨#[106, 97, 98, 98, 101, 114, 58, 105, 113, 58, 108, 97, 115, 116]⟩] := ⟨_, rfl⟩
  have HLS : Hid (∀ i (h : i < L.length), W6.cell? ⟨SB, i, none⟩ = some (.string L[i])) := by
    subst hL
    intro i hi
    have hi2 : i < 2 := hi
    rw [Lib.cell_of_heap HS5.out]
    have hc : i = 0 ∨ i = 1 := by omega
    rcases hc with rfl | rfl <;> rfl
  have hLn : L.length = 2 := by rw [hL]; rfl
  have HSZ : Hid (∀ s ∈ L, s.size ≤ 1048576) := by
    subst hL
    show ∀ s ∈ ([⟨#[104, 116, 116, 112, 58, 47, 47, 106, 97, 98, 98, 101, 114, 46, 111, 114, 103, 47, 112, 114, 111, 116, 111, 99, 111, 108, 47, 100, 105, 115, 99, 111, 35, 105, 110, 102, 111]⟩, ⟨#[106, 97, 98, 98, 101, 114, 58, 105, 113, 58, 108, 97, 115, 116]⟩] : List ByteArray), s.size ≤ 1048576
    decide
  have HLL := Lib.hid hL
  clear hL
  have hSl := heap_lt HS5.out
  have HW6 := Lib.hid (Below.refl W6.heap.size W6)
  clear HS5
  go_wp2_with fail
  go_loopw [21] (fun i wr => ∃ (k : Nat) (a : Option Addr) (c : Nat), i = .int .i64 k ∧ k ≤ 2 ∧ Hid (Fm w w.heap.size T ⟨#[104, 116, 116, 112, 58, 47, 47, 106, 97, 98, 98, 101, 114, 46, 111, 114, 103, 47, 112, 114, 111, 116, 111, 99, 111, 108, 47, 100, 105, 115, 99, 111, 35, 105, 110, 102, 111]⟩ ⟨#[113, 117, 101, 114, 121]⟩ aA cA (ks ++ (L.take k).map featE) a c wr) ∧ Hid (ob a (ks ++ (L.take k).map featE).length c ≠ some SB) ∧ Hid (∀ i (h : i < L.length), wr.cell? ⟨SB, i, none⟩ = some (.string L[i]))) (fun i _ => 2 - (RowKit.intOf i).toNat)
  case atStart => exact ⟨0, a5, c5, rfl, Nat.zero_le _, by (show Fm _ _ _ _ _ _ _ _ _ _ _); simpa using HF0.out, by (show ob _ _ _ ≠ _); simpa using HOS0.out, HLS.out⟩
  case round =>
    clear HF0 HLS HW6 HOS0
    obtain ⟨k, a, c, rfl, hk, HF, HOS, HLS⟩ := hrel
    by_cases hlt : k < 2
    · have hs := HLS.out k (by omega)
      have hss := HSZ.out _ (List.getElem_mem (show k < L.length by omega))
      have HTK : Hid (ks ++ (L.take (k + 1)).map featE = (ks ++ (L.take k).map featE) ++ [featE (L[k]'(by omega))]) := by
        show _ = _
        rw [List.take_succ_eq_append_getElem (show k < L.length by omega), List.map_append, List.append_assoc]; rfl
      have HKN : Hid ((ks ++ (L.take k).map featE).length = k + 1) := by
        show _ = _
        rw [List.length_append, List.length_map, List.length_take, HKL.out]; omega
      generalize L[k]'(by omega) = s at hs hss HTK
      generalize ks ++ (L.take k).map featE = kk at HF HTK HKN HOS
      have hkn : kk.length ≤ 100 := by have := HKN.out; omega
      go_upto_region 10 with fail
      clear hs
      refine region_psi 5 (fun j => [25, 26, 27, 28, 29].getD j 0) (psL [Pr.eq (.agg #[.string ⟨#[104, 116, 116, 112, 58, 47, 47, 106, 97, 98, 98, 101, 114, 46, 111, 114, 103, 47, 112, 114, 111, 116, 111, 99, 111, 108, 47, 100, 105, 115, 99, 111, 35, 105, 110, 102, 111]⟩, .string ⟨#[113, 117, 101, 114, 121]⟩, .slice aA 0 cA, .string ⟨#[]⟩, .slice a kk.length c]), Pr.eq (.string s), Pr.blk (wr.heap.size) 2 #[.string ⟨#[118, 97, 114]⟩, .string s] 9, Pr.el wr.heap.size (featE s), Pr.row (wr.heap.size) (featE s)]) (by kernel_rfl) (by kernel_rfl) (by kernel_rfl) (by kernel_rfl) (by decide) (by kernel_rfl) (by kernel_rfl) (psL_mono _) ?_ ?_
      · intro i o hi ho q W hsz hout hbel hdep
        obtain ⟨x0, x1, x2, x3, x4⟩ := (HF.out.st hbel).load
        have hc : i = 0 ∨ i = 1 ∨ i = 2 ∨ i = 3 ∨ i = 4 := by omega
        rcases hc with rfl | rfl | rfl | rfl | rfl
        · -- 0
          cases ho
          have e6 : q.eval (.tmp 6) = .pointer (some ⟨T, 0, none⟩) := (hout 6 (by decide)).trans rfl
          refine gives_read (v := .agg #[.string ⟨#[104, 116, 116, 112, 58, 47, 47, 106, 97, 98, 98, 101, 114, 46, 111, 114, 103, 47, 112, 114, 111, 116, 111, 99, 111, 108, 47, 100, 105, 115, 99, 111, 35, 105, 110, 102, 111]⟩, .string ⟨#[113, 117, 101, 114, 121]⟩, .slice aA 0 cA, .string ⟨#[]⟩, .slice a kk.length c]) ?_ rfl
          unfold execOp
          dsimp only
          rw [e6]
          go_simp
        · -- 1
          cases ho
          have e8 : q.eval (.tmp 8) = .string s := (hout 8 (by decide)).trans rfl
          refine gives_read (v := .string s) ?_ rfl
          unfold execOp
          dsimp only
          rw [e8]
          go_simp
        · -- 2
          cases ho
          have e26 : q.eval (.tmp 26) = .string s := hdep ⟨1, .data⟩ (by simp) rfl (by decide)
          refine gives_run (W' := W.alloc (.cells #[.string ⟨#[118, 97, 114]⟩, .string s] 9)) (v := .slice (some ⟨W.heap.size, 0, none⟩) 2 2) ?_ ((Below.refl _ W).alloc (Nat.le_refl _) _) (blk_new (by have := hbel.size; omega))
          unfold execOp
          dsimp only
          simp only [List.map_toArray, List.map_cons, List.map_nil, e26]
          go_simp
        · -- 3
          cases ho
          obtain ⟨S, e27, hSN, hS⟩ : ∃ S, q.eval (.tmp 27) = .slice (some ⟨S, 0, none⟩) 2 2 ∧ wr.heap.size ≤ S ∧ W.heap[S]? = some (.cells #[.string ⟨#[118, 97, 114]⟩, .string s] 9 (0, 0)) := hdep ⟨2, .data⟩ (by simp) rfl (by decide)
          clear hSN
          refine gives_call (f := 31) (args := #[.string ⟨#[104, 116, 116, 112, 58, 47, 47, 106, 97, 98, 98, 101, 114, 46, 111, 114, 103, 47, 112, 114, 111, 116, 111, 99, 111, 108, 47, 100, 105, 115, 99, 111, 35, 105, 110, 102, 111]⟩, .string ⟨#[102, 101, 97, 116, 117, 114, 101]⟩, .slice (some ⟨S, 0, none⟩) 2 2]) ?_ ((new_any ⟨#[104, 116, 116, 112, 58, 47, 47, 106, 97, 98, 98, 101, 114, 46, 111, 114, 103, 47, 112, 114, 111, 116, 111, 99, 111, 108, 47, 100, 105, 115, 99, 111, 35, 105, 110, 102, 111]⟩ ⟨#[102, 101, 97, 116, 117, 114, 101]⟩ [⟨#[118, 97, 114]⟩, s] (some ⟨S, 0, none⟩) 2 W (by decide) (by decide) (by simp) (sz2 (by decide) hss) (str_mem2 hS)).mono ?_)
          · unfold execOp
            dsimp only
            simp only [resolve, List.map_toArray, List.map_cons, List.map_nil, e27]
            go_simp
          · rintro e W' ⟨a7, c7, rfl, hin, hb⟩
            exact ⟨_, rfl, hb, a7, c7, none, 0, rfl, hin.weak fun _ _ h => Nat.le_trans hbel.size h⟩
        · -- 4
          cases ho
          obtain ⟨aA, cA, aK, cK, e28, hE⟩ : ∃ aA cA aK cK, q.eval (.tmp 28) = .agg #[.string ((featE s)).sp, .string ((featE s)).nm, .slice aA ((featE s)).atr.length cA, .string ((featE s)).tx, .slice aK ((featE s)).ks.length cK] ∧ InS (fun b => wr.heap.size ≤ b) W (featE s) (q.eval (.tmp 28)) := hdep ⟨3, .data⟩ (by simp) rfl (by decide)
          rw [e28] at hE
          refine gives_run (W' := W.alloc (.cells #[.string ((featE s)).sp, .string ((featE s)).nm, .slice aA ((featE s)).atr.length cA, .string ((featE s)).tx, .slice aK ((featE s)).ks.length cK] 30)) (v := .slice (some ⟨W.heap.size, 0, none⟩) 1 1) ?_ ((Below.refl _ W).alloc (Nat.le_refl _) _) (row_new (by have := hbel.size; omega) hE)
          unfold execOp
          dsimp only
          simp only [List.map_toArray, List.map_cons, List.map_nil, e28]
          go_simp
      · intro q W hq hbel hv
        have e25 : q.eval (.tmp 25) = .agg #[.string ⟨#[104, 116, 116, 112, 58, 47, 47, 106, 97, 98, 98, 101, 114, 46, 111, 114, 103, 47, 112, 114, 111, 116, 111, 99, 111, 108, 47, 100, 105, 115, 99, 111, 35, 105, 110, 102, 111]⟩, .string ⟨#[113, 117, 101, 114, 121]⟩, .slice aA 0 cA, .string ⟨#[]⟩, .slice a kk.length c] := hv 0 (by decide)
        obtain ⟨B, v0, v1, v2, v3, v4, e29, hB, hBB, hBI⟩ : ∃ B v0 v1 v2 v3 v4, q.eval (.tmp 29) = .slice (some ⟨B, 0, none⟩) 1 1 ∧ wr.heap.size ≤ B ∧ W.heap[B]? = some (.cells #[v0, v1, v2, v3, v4] 30 (0, 0)) ∧ InS (fun b => wr.heap.size ≤ b) W (featE s) (.agg #[v0, v1, v2, v3, v4]) := hv 4 (by decide)
        have HFW := Lib.hid (HF.out.st hbel)
        have CW := Lib.hid (HFW.out.with_ (aQ := some ⟨B, 0, none⟩) (cQ := 1) (qs := [(featE s)]) wr (heap_lt HF.out.tb) (fun b e => (HF.out.oe.lt b e).2) (ks_el hBB hB hBI) (by simp; omega))
        have HLW : Hid (∀ i (h : i < L.length), W.cell? ⟨SB, i, none⟩ = some (.string L[i])) := fun i h => (hbel.cell (p := ⟨SB, i, none⟩) (World.block_lt_of_cell? _ _ (HLS.out i h))).trans (HLS.out i h)
        have hq2 : q = canonL q [25, 26, 27, 28, 29] _ := hq
        simp only [canonL] at hq2
        rw [e25, e29] at hq2
        clear hq hv e25 e29
        generalize q.eval (.tmp 26) = u26 at hq2
        generalize q.eval (.tmp 27) = u27 at hq2
        generalize q.eval (.tmp 28) = u28 at hq2
        subst hq2
        clear hB hBB hBI HF HLS hbel
        go_wp2_with fail
        refine CW.out.mono ?_
        rintro r w7 ⟨a7, c7, rfl, ho, hg, hl⟩
        have hr : [(featE s)].map (reS ⟨#[104, 116, 116, 112, 58, 47, 47, 106, 97, 98, 98, 101, 114, 46, 111, 114, 103, 47, 112, 114, 111, 116, 111, 99, 111, 108, 47, 100, 105, 115, 99, 111, 35, 105, 110, 102, 111]⟩) = [(featE s)] := rfl
        rw [hr] at ho hl
        rw [hr]
        rw [← HTK.out] at ho hl
        rw [← HTK.out]
        have HF2 := Lib.hid (HFW.out.put ho hg hl)
        have ht2 := (hg.block _ (heap_lt HFW.out.tb) (fun e => HFW.out.nt e.symm)).trans HFW.out.tb
        have hob : ∀ b, ob a kk.length c = some b → w.heap.size < b := fun b e => (HFW.out.oe.lt b e).1
        have HOS2 : Hid (ob a7 (ks ++ (L.take (k + 1)).map featE).length c7 ≠ some SB) := by
          intro e
          rcases hl with h | h
          · exact HOS.out (h.symm.trans e)
          · have := h _ e; have := HFW.out.bel.size; have := heap_lt HFW.out.tb; omega
        have HLS2 : Hid (∀ i (h : i < L.length), (((((w7.setCell ⟨T, 0, none⟩ (.string ⟨#[104, 116, 116, 112, 58, 47, 47, 106, 97, 98, 98, 101, 114, 46, 111, 114, 103, 47, 112, 114, 111, 116, 111, 99, 111, 108, 47, 100, 105, 115, 99, 111, 35, 105, 110, 102, 111]⟩)).setCell ⟨T, 1, none⟩ (.string ⟨#[113, 117, 101, 114, 121]⟩)).setCell ⟨T, 2, none⟩ (.slice aA 0 cA)).setCell ⟨T, 3, none⟩ (.string ⟨#[]⟩)).setCell ⟨T, 4, none⟩ (.slice a7 (ks ++ (L.take (k + 1)).map featE).length c7)).cell? ⟨SB, i, none⟩ = some (.string L[i])) := fun i h => by
          obtain ⟨W3, hW3, q1, q2, _, _⟩ := st5 ht2 (.string ⟨#[104, 116, 116, 112, 58, 47, 47, 106, 97, 98, 98, 101, 114, 46, 111, 114, 103, 47, 112, 114, 111, 116, 111, 99, 111, 108, 47, 100, 105, 115, 99, 111, 35, 105, 110, 102, 111]⟩) (.string ⟨#[113, 117, 101, 114, 121]⟩) (.slice aA 0 cA) (.string ⟨#[]⟩) (.slice a7 (ks ++ (L.take (k + 1)).map featE).length c7) rfl
          rw [← hW3]
          exact (World.cell?_of_block (a := ⟨SB, i, none⟩) (q2 SB (by omega))).trans ((World.cell?_of_block (a := ⟨SB, i, none⟩) (hg.block SB (World.block_lt_of_cell? _ _ (HLW.out i h)) (fun e => HOS.out e.symm))).trans (HLW.out i h))
        obtain ⟨z0, z1, z2, z3, z4⟩ := bx5 ht2
        have f0 := Lib.frozen_of_heap ht2 0
        have f1 := Lib.frozen_of_heap ht2 1
        have f2 := Lib.frozen_of_heap ht2 2
        have f3 := Lib.frozen_of_heap ht2 3
        have f4 := Lib.frozen_of_heap ht2 4
        clear ht2 hob ho hg hl hr CW HFW HLW HOS HTK HKN
        skip
        generalize hk2 : (ks ++ (L.take (k + 1)).map featE) = k2 at HF2 HOS2 HLS2 ⊢
        have HK2 := Lib.hid hk2
        clear hk2
        go_upto_region 11 with fail
        clear z0 z1 z2 z3 z4 f0 f1 f2 f3 f4
        generalize ((((w7.setCell ⟨T, 0, none⟩ (.string ⟨#[104, 116, 116, 112, 58, 47, 47, 106, 97, 98, 98, 101, 114, 46, 111, 114, 103, 47, 112, 114, 111, 116, 111, 99, 111, 108, 47, 100, 105, 115, 99, 111, 35, 105, 110, 102, 111]⟩)).setCell ⟨T, 1, none⟩ (.string ⟨#[113, 117, 101, 114, 121]⟩)).setCell ⟨T, 2, none⟩ (.slice aA 0 cA)).setCell ⟨T, 3, none⟩ (.string ⟨#[]⟩)).setCell ⟨T, 4, none⟩ (.slice a7 k2.length c7) = W8 at HF2 HLS2 ⊢
        go_wp2_with fail
        go_roundw
        case rel => exact ⟨k + 1, _, _, by go_num, by omega, by (show Fm _ _ _ _ _ _ _ _ _ _ _); rw [HK2.out]; exact HF2.out, by (show ob _ _ _ ≠ _); rw [HK2.out]; exact HOS2.out, HLS2.out⟩
        case measure => simp [RowKit.intOf]; omega
    · obtain rfl : k = 2 := by omega
      have HE : Hid (infoE false = .mk ⟨#[104, 116, 116, 112, 58, 47, 47, 106, 97, 98, 98, 101, 114, 46, 111, 114, 103, 47, 112, 114, 111, 116, 111, 99, 111, 108, 47, 100, 105, 115, 99, 111, 35, 105, 110, 102, 111]⟩ ⟨#[113, 117, 101, 114, 121]⟩ [] ⟨#[]⟩ (ks ++ (L.take 2).map featE)) := by
        show _ = _
        rw [← HKI.out, HLL.out, ← HNA.out]; rfl
      generalize ks ++ (L.take 2).map featE = kk at HF HE
      obtain ⟨x0, x1, x2, x3, x4⟩ := HF.out.load
      obtain ⟨q0, q1, q2, q3, q4⟩ := bx5 HF.out.rb
      have p0 := Lib.frozen_of_heap HF.out.rb 0
      have p1 := Lib.frozen_of_heap HF.out.rb 1
      have p2 := Lib.frozen_of_heap HF.out.rb 2
      have p3 := Lib.frozen_of_heap HF.out.rb 3
      have p4 := Lib.frozen_of_heap HF.out.rb 4
      clear HOS HLS
      go_wp2_with fail
      refine bodyPost_ret (v := .agg #[.string ⟨#[104, 116, 116, 112, 58, 47, 47, 106, 97, 98, 98, 101, 114, 46, 111, 114, 103, 47, 112, 114, 111, 116, 111, 99, 111, 108, 47, 100, 105, 115, 99, 111, 35, 105, 110, 102, 111]⟩, .string ⟨#[113, 117, 101, 114, 121]⟩, .slice aA 0 cA, .string ⟨#[]⟩, .slice a kk.length c]) (by simp [results, Tryz.results15, go_sem, q0, q1, q2, q3, q4]) rfl ?_
      rw [HE.out]
      have hf := HF.out.fin (u0 := .string ⟨#[104, 116, 116, 112, 58, 47, 47, 106, 97, 98, 98, 101, 114, 46, 111, 114, 103, 47, 112, 114, 111, 116, 111, 99, 111, 108, 47, 100, 105, 115, 99, 111, 35, 105, 110, 102, 111]⟩) (u1 := .string ⟨#[113, 117, 101, 114, 121]⟩) (u2 := .slice aA 0 cA) (u3 := .string ⟨#[]⟩) (u4 := .slice a kk.length c)
      exact ⟨_, rfl, hf.1, hf.2⟩
theorem info_any (b : Bool) (w : World) : Calls Tryz.prog 15 #[.bool b] w (ElP (infoE b) w) := by
  cases b
  · exact info_f w
  · exact info_t w
end Go.Proofs.YtlklmoohoobjjaaGreatDoor
