/- Plain facts of a list of two. No condition. -/
import Derived.Test.YtdmbngkkbgmlfaaGreatDoorLt
namespace Go.Proofs.YtdmbngkkbgmlfaaGreatDoor.T
open Go.RowKit Go.Lib

def bJo : ByteArray := ⟨#[106, 111, 101]⟩
def bGr : ByteArray := ⟨#[70, 114, 105, 101, 110, 100, 115]⟩
def bAn : ByteArray := ⟨#[97, 110, 110]⟩
def bJ2 : ByteArray := ⟨#[74, 111, 101]⟩
def iJ : It := ⟨bJo, 1, 1, 0, ⟨#[]⟩, false⟩
def iG : It := ⟨bGr, 1, 0, 1, ⟨#[]⟩, false⟩
def iA : It := ⟨bAn, 1, 2, 0, ⟨#[]⟩, false⟩
def iE : It := ⟨⟨#[]⟩, 1, 0, 1, ⟨#[]⟩, false⟩
theorem nil_tx : txB ⟨#[]⟩ 64 = true := by
  unfold txB
  rw [isT_nil]
  rfl
theorem isT_G : isT bGr = true := isT_iff.2 ⟨[70, 114, 105, 101, 110, 100, 115], by decide, by decide⟩
theorem it_J : itB iJ = true := by
  unfold itB
  rw [show txB iJ.a 64 = true from nil_tx]
  decide
theorem it_A : itB iA = true := by
  unfold itB
  rw [show txB iA.a 64 = true from nil_tx]
  decide
theorem it_G : itB iG = true := by
  unfold itB txB
  rw [show isT iG.n = true from isT_G]
  decide
theorem lt_GJ : cI iG iJ < 0 := by decide
theorem ttl_J : ttl iJ = (0, bJo) := rfl
theorem ttl_A : ttl iA = (0, bAn) := rfl
theorem ttl_G : ttl iG = (1, bGr) := rfl
theorem ne_JA : bJo ≠ bAn := fun e => by have := congrArg (fun b : ByteArray => b.data.toList) e; exact absurd this (by decide)
theorem lk_GJ : Lk [iG, iJ] 7 := by
  refine ⟨by decide, by decide, by decide, ?_, ?_, ?_, ?_⟩
  · intro x hx
    rcases List.mem_cons.1 hx with rfl | hx
    · exact it_G
    · rcases List.mem_singleton.1 hx with rfl
      exact it_J
  · exact List.pairwise_pair.2 (cI_lt.1 lt_GJ)
  · intro x hx
    rcases List.mem_cons.1 hx with rfl | hx
    · exact .inl (by decide)
    · rcases List.mem_singleton.1 hx with rfl
      exact .inr (by decide)
  · refine List.pairwise_pair.2 ?_
    rw [ttl_J, ttl_G]
    intro e
    exact absurd (congrArg Prod.fst e) (by decide)
theorem okB_GJ : okB [iG, iJ] 7 = true := pb_yes lk_GJ
theorem okB_J : okB [iJ] 0 = false := pb_no fun h => by
  rcases h.fit iJ (List.mem_singleton.2 rfl) with e | e
  · exact absurd e (by decide)
  · exact absurd e (by decide)
theorem srch_E : Srch [iG, iJ] iE 0 := ⟨by decide, fun k h hk => absurd hk (Nat.not_lt_zero _), fun k h _ => by
  have h2 : k = 0 ∨ k = 1 := by have : k < 2 := h; omega
  rcases h2 with rfl | rfl
  · show ¬ Lt iG iE
    unfold Lt
    decide
  · show ¬ Lt iJ iE
    unfold Lt
    decide⟩
theorem srch_A : Srch [iG, iJ] iA 2 := ⟨by decide, fun k h _ => by
  have h2 : k = 0 ∨ k = 1 := by have : k < 2 := h; omega
  rcases h2 with rfl | rfl
  · show Lt iG iA
    unfold Lt
    decide
  · show Lt iJ iA
    unfold Lt
    decide, fun k h hk => by have : k < 2 := h; omega⟩
theorem code_E : code [iG, iJ] 22 iE 0 = 10 := by
  unfold code
  rw [if_neg (by decide), if_neg (fun h => h.1 rfl), if_neg (by decide), if_neg (by decide), if_pos (by decide)]
theorem may_A : mayB [iG, iJ] iA = true := mayB_iff.2 ⟨it_A, .inr (by decide)⟩
theorem tkn_A : tkn [iG, iJ] iA = false := by
  have h1 : ¬ (¬ (iG.g = iA.g ∧ iG.i = iA.i) ∧ ttl iG = ttl iA) := fun h => by
    rw [ttl_G, ttl_A] at h
    exact absurd (congrArg Prod.fst h.2) (by decide)
  have h2 : ¬ (¬ (iJ.g = iA.g ∧ iJ.i = iA.i) ∧ ttl iJ = ttl iA) := fun h => by
    rw [ttl_J, ttl_A] at h
    exact ne_JA (congrArg Prod.snd h.2)
  unfold tkn
  rw [List.any_cons, List.any_cons, List.any_nil, decide_eq_false h1, decide_eq_false h2]
  rfl
theorem code_A : code [iG, iJ] 20 iA 2 = 0 := by
  unfold code
  rw [if_neg (by decide), if_neg (fun h => by rw [may_A] at h; cases h.2), if_neg (fun h => h.1 rfl), if_neg (by decide), if_neg (fun h => absurd h.1 (by decide)), if_neg (fun h => absurd h.1 (by decide)), if_neg (by decide), if_neg (fun h => by rw [tkn_A] at h; cases h.2)]
theorem aft_E : aft [iG, iJ] 22 iE 0 = [iG, iJ] := if_neg (by rw [code_E]; decide)
theorem aft_A : aft [iG, iJ] 20 iA 2 = [iG, iJ, iA] := by
  rw [show aft [iG, iJ] 20 iA 2 = app [iG, iJ] 20 iA 2 from if_pos code_A]
  rfl
theorem ids_J : ids [iG, iJ] 1 = [1] := by decide
theorem gps_J : gps [iG, iJ] = [1] := by decide
theorem fre_2 : Fre [1] 2 := ⟨by decide, by decide, by decide, fun m h1 h2 => by
  have : m = 1 := by omega
  subst this
  decide⟩
theorem tit_J : tit [iG, iJ] 1 = bGr := rfl
theorem cal_J : cal [iG, iJ] (0, Go.Proofs.YtdmbngkkbgmlfaaGreatDoor.mk (Hd.nl bJ2.data.toList)) = some iJ := by
  rw [show (0, Go.Proofs.YtdmbngkkbgmlfaaGreatDoor.mk (Hd.nl bJ2.data.toList)) = ttl iJ from rfl]
  exact cal_one lk_GJ (List.mem_cons_of_mem _ (List.mem_singleton.2 rfl))
end Go.Proofs.YtdmbngkkbgmlfaaGreatDoor.T
