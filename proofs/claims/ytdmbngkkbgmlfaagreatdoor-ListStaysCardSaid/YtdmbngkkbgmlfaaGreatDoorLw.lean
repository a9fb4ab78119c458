/- Contract: live. Conditions: those of each theorem's head. -/
import Derived.Test.YtdmbngkkbgmlfaaGreatDoorLv
import Derived.Test.YtdmbngkkbgmlfaaGreatDoorRk
namespace Go.Proofs.YtdmbngkkbgmlfaaGreatDoor.T
open Go.RowKit Go.Lib

def apP (l : List It) (f : Option Addr → Nat → Value) : Pr := ⟨fun v W => ∃ b d, v = f b d ∧ ItS W b l, fun _ _ _ hb ⟨b, d, h1, h2⟩ => ⟨b, d, h1, h2.below hb⟩⟩
theorem its_row {w : World} {S n : Nat} {cs : Array Value} {l : List It} (h : w.heap[S]? = some (.cells cs 26 (0, 0))) (hn : l.length = n) (hm : n ≤ 1000000) (hc : cs.toList = cellsI l) : ItS w (some ⟨S, 0, none⟩) l := by
  have hl := cellsI_len l
  have hs : cs.size = n * 6 := by rw [← Array.length_toList, hc, hl, hn]
  have ho : OwI w 0 (.slice (some ⟨S, 0, none⟩) l.length n) l := ⟨by rw [hl], .inr ⟨S, n, cs, rfl, Nat.zero_le _, h, by omega, by unfold maxLen; omega, hs, by rw [hc, ← hl, List.take_length]⟩⟩
  exact ho.its
theorem sz_GJ : ∀ z ∈ [iG, iJ], z.n.size ≤ 1000000 ∧ z.a.size ≤ 1000000 := by
  intro z hz
  rcases List.mem_cons.1 hz with rfl | hz
  · exact ⟨by decide, by decide⟩
  · rcases List.mem_singleton.1 hz with rfl
    exact ⟨by decide, by decide⟩
theorem sz_J : ∀ z ∈ [iJ], z.n.size ≤ 1000000 ∧ z.a.size ≤ 1000000 := fun z hz => sz_GJ z (List.mem_cons_of_mem _ hz)
theorem lput2 (W : World) (S : Nat) (h : W.heap[S]? = some (.cells #[.string ⟨#[106, 111, 101]⟩, .int .i64 1, .int .i64 1, .int .i64 0, .string ⟨#[]⟩, .bool false, .string ⟨#[70, 114, 105, 101, 110, 100, 115]⟩, .int .i64 1, .int .i64 0, .int .i64 1, .string ⟨#[]⟩, .bool false] 26 (0, 0))) : Calls Tryz.prog 23 #[.int .i64 7, .slice (some ⟨S, 0, none⟩) 2 2] W fun e w' => ∃ b d, e = .returned (.tuple #[.agg #[.slice b 2 d, .int .i64 7], .int .i64 0]) ∧ ItS w' b [iG, iJ] ∧ Below W.heap.size W w' :=
  put2 iJ iG 7 _ 2 W (its_row (l := [iJ, iG]) h rfl (by decide) rfl) sz_GJ lt_GJ okB_GJ
theorem lput1 (W : World) (S : Nat) (h : W.heap[S]? = some (.cells #[.string ⟨#[106, 111, 101]⟩, .int .i64 1, .int .i64 1, .int .i64 0, .string ⟨#[]⟩, .bool false] 26 (0, 0))) : Calls Tryz.prog 23 #[.int .i64 0, .slice (some ⟨S, 0, none⟩) 1 1] W fun e w' => e = .returned (.tuple #[.agg #[.slice none 0 0, .int .i64 0], .int .i64 170]) ∧ Below W.heap.size W w' :=
  put1 iJ 0 _ 1 W (its_row (l := [iJ]) h rfl (by decide) rfl) sz_J okB_J
theorem lbud (W : World) (b : Option Addr) (d : Nat) (h : ItS W b [iG, iJ]) : Calls Tryz.prog 13 #[.agg #[.slice b 2 d, .int .i64 7], .string ⟨#[74, 111, 101]⟩] W (Gives (.tuple #[.agg #[.string ⟨#[106, 111, 101]⟩, .int .i64 1, .int .i64 1, .int .i64 0, .string ⟨#[]⟩, .bool false], .bool true]) W) := by
  have h2 := buddy_any [iG, iJ] b d 7 bJ2 W h (by decide) sz_GJ (by decide)
  rw [cal_J] at h2
  exact h2
theorem lapE (W : World) (b : Option Addr) (d : Nat) (h : ItS W b [iG, iJ]) : Calls Tryz.prog 10 #[.agg #[.slice b 2 d, .int .i64 7], .int .i64 22, .agg #[.string ⟨#[]⟩, .int .i64 1, .int .i64 0, .int .i64 1, .string ⟨#[]⟩, .bool false]] W fun e w' => ∃ b d, e = .returned (.tuple #[.agg #[.slice b 2 d, .int .i64 7], .int .i64 10]) ∧ ItS w' b [iG, iJ] ∧ Below W.heap.size W w' := by
  have h2 := apply_any [iG, iJ] 7 22 iE 0 b d W srch_E lk_GJ.ris h (by decide) (by decide) (by decide) sz_GJ
  rw [aft_E, code_E] at h2
  exact h2
theorem lapA (W : World) (b : Option Addr) (d : Nat) (h : ItS W b [iG, iJ]) : Calls Tryz.prog 10 #[.agg #[.slice b 2 d, .int .i64 7], .int .i64 20, .agg #[.string ⟨#[97, 110, 110]⟩, .int .i64 1, .int .i64 2, .int .i64 0, .string ⟨#[]⟩, .bool false]] W fun e w' => ∃ b d, e = .returned (.tuple #[.agg #[.slice b 3 d, .int .i64 7], .int .i64 0]) ∧ ItS w' b [iG, iJ, iA] ∧ Below W.heap.size W w' := by
  have h2 := apply_any [iG, iJ] 7 20 iA 2 b d W srch_A lk_GJ.ris h (by decide) (by decide) (by decide) sz_GJ
  rw [aft_A, code_A] at h2
  exact h2
theorem nums_GJ : ∀ x ∈ [iG, iJ], 0 ≤ x.i ∧ x.i ≤ 2000000 ∧ 0 ≤ x.g ∧ x.g ≤ 2000000 := by
  intro z hz
  rcases List.mem_cons.1 hz with rfl | hz
  · exact ⟨by decide, by decide, by decide, by decide⟩
  · rcases List.mem_singleton.1 hz with rfl
    exact ⟨by decide, by decide, by decide, by decide⟩
theorem lplc (W : World) (b : Option Addr) (d : Nat) (h : ItS W b [iG, iJ]) : Calls Tryz.prog 12 #[.agg #[.slice b 2 d, .int .i64 7], .int .i64 1] W (Gives (.int .i64 2) W) :=
  place_any [iG, iJ] b d 7 1 2 W h (by decide) (fun x hx => ⟨(nums_GJ x hx).1, (nums_GJ x hx).2.1⟩) (by rw [ids_J]; exact fre_2)
theorem lroom (W : World) (b : Option Addr) (d : Nat) (h : ItS W b [iG, iJ]) : Calls Tryz.prog 15 #[.agg #[.slice b 2 d, .int .i64 7]] W (Gives (.int .i64 2) W) :=
  room_any [iG, iJ] b d 7 2 W h (by decide) (fun x hx => ⟨(nums_GJ x hx).2.2.1, (nums_GJ x hx).2.2.2⟩) (by rw [gps_J]; exact fre_2)
theorem ltit (W : World) (b : Option Addr) (d : Nat) (h : ItS W b [iG, iJ]) : Calls Tryz.prog 14 #[.agg #[.slice b 2 d, .int .i64 7], .int .i64 1] W (Gives (.string ⟨#[70, 114, 105, 101, 110, 100, 115]⟩) W) :=
  title_any [iG, iJ] b d 7 1 W h (by decide) (fun x hx => (sz_GJ x hx).1)
theorem lsm (W : World) (b : Option Addr) (d : Nat) (h : ItS W b [iG, iJ]) : Calls Tryz.prog 26 #[.agg #[.slice b 2 d, .int .i64 7], .agg #[.slice b 2 d, .int .i64 7]] W (Gives (.bool true) W) := by
  have h2 := lsame_any [iG, iJ] [iG, iJ] b b d d 7 7 W h h (by decide) (by decide) rfl
  rw [eqv_yes rfl] at h2
  exact h2
theorem lrs (W : World) (b b2 : Option Addr) (d d2 : Nat) (h : ItS W b [iG, iJ]) (h2 : ItS W b2 [iG, iJ]) : Calls Tryz.prog 11 #[.agg #[.slice b2 2 d2, .int .i64 7], .agg #[.slice b 2 d, .int .i64 7]] W (Gives (.bool true) W) := by
  have h3 := rsame_any [iG, iJ] [iG, iJ] b2 b d2 d 7 7 W h2 h (by decide)
  rw [pb_yes ⟨rfl, rfl⟩] at h3
  exact h3
end Go.Proofs.YtdmbngkkbgmlfaaGreatDoor.T
