/- Take at the laws' own events. Condition: the secret has at most 6000 bytes. -/
import Derived.Test.YtolnpfcncmcacaaGreatDoorZk
namespace Go.Proofs.YtolnpfcncmcacaaGreatDoor
open Go.RowKit Go.Lib Go.Shelf Tg Sn
def elH : El := .mk spS streamN [(idN, ⟨#[51]⟩)] ⟨#[]⟩ []
theorem elH_hd : hdB 1 elH.sp elH.nm elH.atr = true := by
  show (decide ((1 : Int) = 1) && ((spS.toList == spL) && ((streamN.toList == streamL) && !(if (idN.toList == idN.toList) = true then (⟨#[51]⟩ : ByteArray) else ⟨#[]⟩).toList.isEmpty))) = true
  rw [if_pos (by simp)]
  simp only [ByteArray.toList_eq]
  decide
theorem elH_attr : attrV elH.atr idN = ⟨#[51]⟩ := by
  show (if (idN.toList == idN.toList) = true then (⟨#[51]⟩ : ByteArray) else _) = _
  rw [if_pos (by simp)]
theorem take_hdr (d s : ByteArray) (g : Nat) (W : World) (hg : W.heap[g]? = some (.cells #[.string ⟨#[105, 100]⟩, .string ⟨#[51]⟩] 81 (0, 0))) (hs : s.size ≤ 6000) :
    Calls Tryz.prog 18 #[.agg #[.string d, .string s, .int .i64 1], .agg #[.int .i64 1, .string ⟨#[104, 116, 116, 112, 58, 47, 47, 101, 116, 104, 101, 114, 120, 46, 106, 97, 98, 98, 101, 114, 46, 111, 114, 103, 47, 115, 116, 114, 101, 97, 109, 115]⟩, .string ⟨#[115, 116, 114, 101, 97, 109]⟩, .slice (some ⟨g, 0, none⟩) 1 1, .string ⟨#[]⟩, .slice none 0 0, .int .i64 0]] W fun r w' => (∃ a c, r = .returned (.tuple #[.agg #[.string d, .string s, .int .i64 2], .string (shakeT ⟨#[51]⟩ s), .slice a 0 c])) ∧ Below W.heap.size W w' := by
  have hin : In W.heap.size W elH (.agg #[.string spS, .string streamN, .slice (some ⟨g, 0, none⟩) [(idN, (⟨#[51]⟩ : ByteArray))].length 1, .string ⟨#[]⟩, .slice none ([] : List El).length 0]) := by
    refine .mk spS streamN [(idN, ⟨#[51]⟩)] ⟨#[]⟩ [] (some ⟨g, 0, none⟩) 1 none 0 (fun _ _ => .bool false) ⟨⟨by decide, by decide, by decide, by decide⟩, fun a ha => ?_⟩ ⟨by decide, by decide⟩ (by decide) (fun i hi => ?_) (fun i hi => by cases hi) (fun i hi => by cases hi)
    · obtain rfl : a = (idN, ⟨#[51]⟩) := by simpa using ha
      exact ⟨by decide, by decide⟩
    · obtain rfl : i = 0 := by simpa using hi
      exact ⟨g, 0, rfl, heap_lt hg, by rw [Lib.cell_of_heap hg]; rfl, by rw [Lib.cell_of_heap hg]; rfl⟩
  have H := take_any8 d s 1 1 0 elH (some ⟨g, 0, none⟩) none 1 0 W.heap.size W hin (Nat.le_refl _) (by decide) hs (by decide)
  have e1 : tkP 1 1 elH = 2 := by unfold tkP; rw [if_neg (by decide), if_pos ⟨rfl, elH_hd⟩]
  have e2 : tkT 1 1 0 elH s = shakeT ⟨#[51]⟩ s := by unfold tkT; rw [if_neg (by decide), if_pos ⟨rfl, elH_hd⟩, elH_attr]
  have e3 : tkN 1 1 elH = 0 := rfl
  unfold TkP at H
  rw [e1, e2, e3] at H
  exact H
theorem shk_st : stB 2 compS shakeN compS shakeN = true := by
  unfold stB
  simp
theorem ab_st : stB 2 ⟨#[97]⟩ ⟨#[98]⟩ spS errN = false := by
  unfold stB
  simp only [ByteArray.toList_eq]
  decide
theorem take_shk (d s : ByteArray)  (W : World)  (hs : s.size ≤ 6000) :
    Calls Tryz.prog 18 #[.agg #[.string d, .string s, .int .i64 2], .agg #[.int .i64 2, .string ⟨#[106, 97, 98, 98, 101, 114, 58, 99, 111, 109, 112, 111, 110, 101, 110, 116, 58, 97, 99, 99, 101, 112, 116]⟩, .string ⟨#[104, 97, 110, 100, 115, 104, 97, 107, 101]⟩, .slice none 0 0, .string ⟨#[]⟩, .slice none 0 0, .int .i64 0]] W fun r w' => (∃ a c, r = .returned (.tuple #[.agg #[.string d, .string s, .int .i64 3], .string ⟨#[]⟩, .slice a 0 c])) ∧ Below W.heap.size W w' := by
  have hin : In W.heap.size W (.mk compS shakeN [] ⟨#[]⟩ []) (.agg #[.string compS, .string shakeN, .slice none ([] : List At).length 0, .string ⟨#[]⟩, .slice none ([] : List El).length 0]) :=
    .mk compS shakeN [] ⟨#[]⟩ [] none 0 none 0 (fun _ _ => .bool false) ⟨⟨by decide, by decide, by decide, by decide⟩, fun a ha => by cases ha⟩ ⟨by decide, by decide⟩ (by decide) (fun i hi => by cases hi) (fun i hi => by cases hi) (fun i hi => by cases hi)
  have H := take_any8 d s 2 2 0 (.mk compS shakeN [] ⟨#[]⟩ []) none none 0 0 W.heap.size W hin (Nat.le_refl _) (by decide) hs (by decide)
  have e1 : tkP 2 2 (.mk compS shakeN [] ⟨#[]⟩ []) = 3 := by unfold tkP; rw [if_neg (by decide), if_neg (fun h => absurd h.1 (by decide)), if_pos ⟨rfl, shk_st⟩]
  have e2 : tkT 2 2 0 (.mk compS shakeN [] ⟨#[]⟩ []) s = ⟨#[]⟩ := by unfold tkT; rw [if_neg (by decide), if_neg (fun h => absurd h.1 (by decide)), if_pos ⟨rfl, shk_st⟩]
  have e3 : tkN 2 2 (.mk compS shakeN [] ⟨#[]⟩ []) = 0 := by unfold tkN; rw [if_neg (fun h => absurd h.1 (by decide))]
  unfold TkP at H
  rw [e1, e2, e3] at H
  exact H
theorem take_stz (d s : ByteArray)  (W : World)  (hs : s.size ≤ 6000) :
    Calls Tryz.prog 18 #[.agg #[.string d, .string s, .int .i64 3], .agg #[.int .i64 2, .string ⟨#[97]⟩, .string ⟨#[98]⟩, .slice none 0 0, .string ⟨#[]⟩, .slice none 0 0, .int .i64 0]] W fun r w' => (∃ a c, r = .returned (.tuple #[.agg #[.string d, .string s, .int .i64 3], .string ⟨#[]⟩, .slice a 1 c])) ∧ Below W.heap.size W w' := by
  have hin : In W.heap.size W (.mk ⟨#[97]⟩ ⟨#[98]⟩ [] ⟨#[]⟩ []) (.agg #[.string ⟨#[97]⟩, .string ⟨#[98]⟩, .slice none ([] : List At).length 0, .string ⟨#[]⟩, .slice none ([] : List El).length 0]) :=
    .mk ⟨#[97]⟩ ⟨#[98]⟩ [] ⟨#[]⟩ [] none 0 none 0 (fun _ _ => .bool false) ⟨⟨by decide, by decide, by decide, by decide⟩, fun a ha => by cases ha⟩ ⟨by decide, by decide⟩ (by decide) (fun i hi => by cases hi) (fun i hi => by cases hi) (fun i hi => by cases hi)
  have H := take_any8 d s 3 2 0 (.mk ⟨#[97]⟩ ⟨#[98]⟩ [] ⟨#[]⟩ []) none none 0 0 W.heap.size W hin (Nat.le_refl _) (by decide) hs (by decide)
  have e1 : tkP 3 2 (.mk ⟨#[97]⟩ ⟨#[98]⟩ [] ⟨#[]⟩ []) = 3 := by unfold tkP; rw [if_neg (by decide), if_neg (fun h => absurd h.1 (by decide)), if_neg (fun h => absurd h.1 (by decide)), if_pos ⟨rfl, rfl, ab_st⟩]
  have e2 : tkT 3 2 0 (.mk ⟨#[97]⟩ ⟨#[98]⟩ [] ⟨#[]⟩ []) s = ⟨#[]⟩ := by unfold tkT; rw [if_neg (by decide), if_neg (fun h => absurd h.1 (by decide)), if_neg (fun h => absurd h.1 (by decide)), if_pos ⟨rfl, rfl, ab_st⟩]
  have e3 : tkN 3 2 (.mk ⟨#[97]⟩ ⟨#[98]⟩ [] ⟨#[]⟩ []) = 1 := by unfold tkN; rw [if_pos ⟨rfl, rfl, ab_st⟩]
  unfold TkP at H
  rw [e1, e2, e3] at H
  exact H
theorem take_wrg (d s : ByteArray)  (W : World)  (hs : s.size ≤ 6000) :
    Calls Tryz.prog 18 #[.agg #[.string d, .string s, .int .i64 3], .agg #[.int .i64 4, .string ⟨#[]⟩, .string ⟨#[]⟩, .slice none 0 0, .string ⟨#[]⟩, .slice none 0 0, .int .i64 60]] W fun r w' => (∃ a c, r = .returned (.tuple #[.agg #[.string d, .string s, .int .i64 4], .string (endT 3 c60), .slice a 0 c])) ∧ Below W.heap.size W w' := by
  have hin : In W.heap.size W (.mk ⟨#[]⟩ ⟨#[]⟩ [] ⟨#[]⟩ []) (.agg #[.string ⟨#[]⟩, .string ⟨#[]⟩, .slice none ([] : List At).length 0, .string ⟨#[]⟩, .slice none ([] : List El).length 0]) :=
    .mk ⟨#[]⟩ ⟨#[]⟩ [] ⟨#[]⟩ [] none 0 none 0 (fun _ _ => .bool false) ⟨⟨by decide, by decide, by decide, by decide⟩, fun a ha => by cases ha⟩ ⟨by decide, by decide⟩ (by decide) (fun i hi => by cases hi) (fun i hi => by cases hi) (fun i hi => by cases hi)
  have H := take_any8 d s 3 4 60 (.mk ⟨#[]⟩ ⟨#[]⟩ [] ⟨#[]⟩ []) none none 0 0 W.heap.size W hin (Nat.le_refl _) (by decide) hs (by decide)
  have e1 : tkP 3 4 (.mk ⟨#[]⟩ ⟨#[]⟩ [] ⟨#[]⟩ []) = 4 := by unfold tkP; rw [if_neg (by decide), if_neg (fun h => absurd h.1 (by decide)), if_neg (fun h => absurd h.1 (by decide)), if_neg (fun h => absurd h.2.1 (by decide))]
  have e2 : tkT 3 4 60 (.mk ⟨#[]⟩ ⟨#[]⟩ [] ⟨#[]⟩ []) s = endT 3 c60 := by unfold tkT; rw [if_neg (by decide), if_neg (fun h => absurd h.1 (by decide)), if_neg (fun h => absurd h.1 (by decide)), if_neg (fun h => absurd h.2.1 (by decide))]; rfl
  have e3 : tkN 3 4 (.mk ⟨#[]⟩ ⟨#[]⟩ [] ⟨#[]⟩ []) = 0 := by unfold tkN; rw [if_neg (fun h => absurd h.2.1 (by decide))]
  unfold TkP at H
  rw [e1, e2, e3] at H
  exact H
theorem shakeT_size (a s : ByteArray) : (shakeT a s).size = 63 := by
  unfold shakeT
  rw [ByteArray.size_append, ByteArray.size_append, hexT_size]
  rfl
theorem endT_c60 : 50 < (endT 3 c60).size := by
  have h0 : c60.toList.isEmpty = false := by rw [ByteArray.toList_eq]; rfl
  unfold endT
  rw [if_pos (by decide), h0, if_neg (by decide)]
  simp only [ByteArray.size_append]
  decide
theorem begB_live : begB ⟨#[120, 46, 111, 114, 103]⟩ ⟨#[115]⟩ = true := by
  unfold begB
  rw [show Jd.ok (Jn.jd ⟨#[]⟩ ⟨#[120, 46, 111, 114, 103]⟩ ⟨#[]⟩) = true from (Jd.ok_iff _).2 ⟨⟨by decide, ⟨[], by decide, by decide⟩, by decide⟩, ⟨by decide, ⟨[120, 46, 111, 114, 103], by decide, by decide⟩, by decide⟩, ⟨by decide, ⟨[], by decide, by decide⟩, by decide⟩, by decide, by decide, by decide⟩]
  rw [show isTx (⟨#[115]⟩ : ByteArray).data.toList = true from (isTx_iff _).2 ⟨[115], by decide, by decide⟩, ByteArray.toList_eq]
  rfl
theorem begB_none : begB ⟨#[]⟩ ⟨#[115]⟩ = false := by
  unfold begB
  rw [show Jd.ok (Jn.jd ⟨#[]⟩ ⟨#[]⟩ ⟨#[]⟩) = false from by rw [Bool.eq_false_iff, ne_eq, Jd.ok_iff]; exact fun h => absurd h.2.2.2.2.2 (by decide)]
  rfl
theorem headL_len : headL.length = 120 := by decide
end Go.Proofs.YtolnpfcncmcacaaGreatDoor
