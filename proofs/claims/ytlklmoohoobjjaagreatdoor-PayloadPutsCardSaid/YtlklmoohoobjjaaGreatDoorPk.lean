/- The contracts of payload.Form, Hint, Name, Items, Last. Conditions: texts of at most 1048576 bytes; the table of powers holds what the program's text lays. -/
import Derived.Test.YtlklmoohoobjjaaGreatDoorPj
import Derived.Test.YtlklmoohoobjjaaGreatDoorPg
import Derived.Test.YtlklmoohoobjjaaGreatDoorAk
import Derived.Lib.AppendIntMem
import Derived.Lib.ItoaLen
namespace Go.Proofs.YtlklmoohoobjjaaGreatDoor
open Go.RowKit Go.Lib Go.Shelf Tg

/-- What the answers are. -/
def formE (b : Bool) (user : ByteArray) : El := .mk sReg ⟨#[113, 117, 101, 114, 121]⟩ [] ⟨#[]⟩ ((if b then [lf ⟨#[114, 101, 103, 105, 115, 116, 101, 114, 101, 100]⟩ ⟨#[]⟩] else []).map (reS sReg) ++ [lf ⟨#[105, 110, 115, 116, 114, 117, 99, 116, 105, 111, 110, 115]⟩ ⟨#[69, 110, 116, 101, 114, 32, 121, 111, 117, 114, 32, 115, 99, 114, 101, 101, 110, 32, 110, 97, 109, 101, 32, 97, 110, 100, 32, 112, 97, 115, 115, 119, 111, 114, 100, 46]⟩, lf ⟨#[117, 115, 101, 114, 110, 97, 109, 101]⟩ user, lf ⟨#[112, 97, 115, 115, 119, 111, 114, 100]⟩ ⟨#[]⟩].map (reS sReg))
def hintE : El := .mk sGat ⟨#[113, 117, 101, 114, 121]⟩ [] ⟨#[]⟩ ([lf ⟨#[100, 101, 115, 99]⟩ ⟨#[69, 110, 116, 101, 114, 32, 116, 104, 101, 32, 115, 99, 114, 101, 101, 110, 32, 110, 97, 109, 101, 32, 111, 102, 32, 116, 104, 101, 32, 112, 101, 114, 115, 111, 110, 32, 121, 111, 117, 32, 119, 97, 110, 116, 32, 116, 111, 32, 97, 100, 100, 46]⟩, lf ⟨#[112, 114, 111, 109, 112, 116]⟩ ⟨#[]⟩].map (reS sGat))
def nameE (j : ByteArray) : El := .mk sGat ⟨#[113, 117, 101, 114, 121]⟩ [] ⟨#[]⟩ ([lf ⟨#[106, 105, 100]⟩ j].map (reS sGat))
def itemsE : El := .mk sItm ⟨#[113, 117, 101, 114, 121]⟩ [] ⟨#[]⟩ []
/-- The digits of a number, not below 0. -/
def digits (n : Int) : ByteArray := ⟨(Lib.itoa (max n 0)).toArray⟩
def lastE (n : Int) : El := .mk sLst ⟨#[113, 117, 101, 114, 121]⟩ (newA [⟨#[115, 101, 99, 111, 110, 100, 115]⟩, digits n]) ⟨#[]⟩ []
theorem new0_any (sp nm : ByteArray) (w : World) (h1 : sp.size ≤ 1048576) (h2 : nm.size ≤ 1048576) : Calls Tryz.prog 31 #[.string sp, .string nm, .slice none 0 0] w (NewP sp nm [] w) :=
  new_any sp nm [] none 0 w h1 h2 (by simp) (fun s h => by cases h) (fun i h => absurd h (Nat.not_lt_zero _))
set_option maxRecDepth 100000 in
set_option maxHeartbeats 8000000 in
theorem form_f (user : ByteArray) (w : World) (hu : user.size ≤ 1048576) :
    Calls Tryz.prog 9 #[.bool false, .string user] w (ElP (formE false user) w) := by
  have HB0 : Hid (Below w.heap.size w (w.alloc (.cells #[.string ⟨#[]⟩, .string ⟨#[]⟩, .slice none 0 0, .string ⟨#[]⟩, .slice none 0 0] 30))) := (Below.refl _ w).alloc (Nat.le_refl _) _
  have HR0 : Hid ((w.alloc (.cells #[.string ⟨#[]⟩, .string ⟨#[]⟩, .slice none 0 0, .string ⟨#[]⟩, .slice none 0 0] 30)).heap[w.heap.size]? = some (.cells #[.string ⟨#[]⟩, .string ⟨#[]⟩, .slice none 0 0, .string ⟨#[]⟩, .slice none 0 0] 30 (0, 0))) := box_new w _ _
  go_enter Tryz.func9, Tryz.ntmps9
  go_wp2_with fail
  refine (new0_any ⟨#[106, 97, 98, 98, 101, 114, 58, 105, 113, 58, 114, 101, 103, 105, 115, 116, 101, 114]⟩ ⟨#[113, 117, 101, 114, 121]⟩ _ (by decide) (by decide)).mono ?_
  rintro r w1 ⟨aA, cA, rfl, hin, hb⟩
  have HB1 := Lib.hid (more HB0.out (Nat.le_refl _) hb)
  have HR1 := Lib.hid ((hb.block _ (heap_lt HR0.out)).trans HR0.out)
  have HF := Lib.hid (Fm.new HB1.out (Nat.le_refl _) HR1.out hin)
  clear hb hin HB0 HR0 HB1 HR1
  go_upto_region 4 with fail
  simp only [newA, List.length_nil] at HF ⊢
  generalize w1.alloc (.cells #[.string ⟨#[106, 97, 98, 98, 101, 114, 58, 105, 113, 58, 114, 101, 103, 105, 115, 116, 101, 114]⟩, .string ⟨#[113, 117, 101, 114, 121]⟩, .slice aA 0 cA, .string ⟨#[]⟩, .slice none 0 0] 30) = W1 at HF ⊢
  generalize w1.heap.size = T at HF ⊢
  refine region_psi 6 (fun j => [12, 13, 14, 15, 16, 17].getD j 0) (psL [Pr.eq (.agg #[.string ⟨#[106, 97, 98, 98, 101, 114, 58, 105, 113, 58, 114, 101, 103, 105, 115, 116, 101, 114]⟩, .string ⟨#[113, 117, 101, 114, 121]⟩, .slice aA 0 cA, .string ⟨#[]⟩, .slice none 0 0]), Pr.eq (.agg #[.string ⟨#[]⟩, .string ⟨#[105, 110, 115, 116, 114, 117, 99, 116, 105, 111, 110, 115]⟩, .slice none 0 0, .string ⟨#[69, 110, 116, 101, 114, 32, 121, 111, 117, 114, 32, 115, 99, 114, 101, 101, 110, 32, 110, 97, 109, 101, 32, 97, 110, 100, 32, 112, 97, 115, 115, 119, 111, 114, 100, 46]⟩, .slice none 0 0]), Pr.eq (.string user), Pr.eq (.agg #[.string ⟨#[]⟩, .string ⟨#[117, 115, 101, 114, 110, 97, 109, 101]⟩, .slice none 0 0, .string user, .slice none 0 0]), Pr.eq (.agg #[.string ⟨#[]⟩, .string ⟨#[112, 97, 115, 115, 119, 111, 114, 100]⟩, .slice none 0 0, .string ⟨#[]⟩, .slice none 0 0]), Pr.blk (W1.heap.size) 3 #[.string ⟨#[]⟩, .string ⟨#[105, 110, 115, 116, 114, 117, 99, 116, 105, 111, 110, 115]⟩, .slice none 0 0, .string ⟨#[69, 110, 116, 101, 114, 32, 121, 111, 117, 114, 32, 115, 99, 114, 101, 101, 110, 32, 110, 97, 109, 101, 32, 97, 110, 100, 32, 112, 97, 115, 115, 119, 111, 114, 100, 46]⟩, .slice none 0 0, .string ⟨#[]⟩, .string ⟨#[117, 115, 101, 114, 110, 97, 109, 101]⟩, .slice none 0 0, .string user, .slice none 0 0, .string ⟨#[]⟩, .string ⟨#[112, 97, 115, 115, 119, 111, 114, 100]⟩, .slice none 0 0, .string ⟨#[]⟩, .slice none 0 0] 30]) (by kernel_rfl) (by kernel_rfl) (by kernel_rfl) (by kernel_rfl) (by decide) (by kernel_rfl) (by kernel_rfl) (psL_mono _) ?_ ?_
  · intro i o hi ho q W hsz hout hbel hdep
    obtain ⟨x0, x1, x2, x3, x4⟩ := (HF.out.st hbel).load
    have hc : i = 0 ∨ i = 1 ∨ i = 2 ∨ i = 3 ∨ i = 4 ∨ i = 5 := by omega
    rcases hc with rfl | rfl | rfl | rfl | rfl | rfl
    · -- 0
      cases ho
      have e5 : q.eval (.tmp 5) = .pointer (some ⟨T, 0, none⟩) := (hout 5 (by decide)).trans rfl
      refine gives_read (v := .agg #[.string ⟨#[106, 97, 98, 98, 101, 114, 58, 105, 113, 58, 114, 101, 103, 105, 115, 116, 101, 114]⟩, .string ⟨#[113, 117, 101, 114, 121]⟩, .slice aA 0 cA, .string ⟨#[]⟩, .slice none 0 0]) ?_ rfl
      unfold execOp
      dsimp only
      rw [e5]
      go_simp
    · -- 1
      cases ho
      refine gives_call (f := 34) (args := #[.string ⟨#[105, 110, 115, 116, 114, 117, 99, 116, 105, 111, 110, 115]⟩, .string ⟨#[69, 110, 116, 101, 114, 32, 121, 111, 117, 114, 32, 115, 99, 114, 101, 101, 110, 32, 110, 97, 109, 101, 32, 97, 110, 100, 32, 112, 97, 115, 115, 119, 111, 114, 100, 46]⟩]) ?_ ((leaf_any ⟨#[105, 110, 115, 116, 114, 117, 99, 116, 105, 111, 110, 115]⟩ ⟨#[69, 110, 116, 101, 114, 32, 121, 111, 117, 114, 32, 115, 99, 114, 101, 101, 110, 32, 110, 97, 109, 101, 32, 97, 110, 100, 32, 112, 97, 115, 115, 119, 111, 114, 100, 46]⟩ W (by decide)).mono ?_)
      · unfold execOp
        dsimp only
        simp only [resolve, List.map_toArray, List.map_cons, List.map_nil]
        go_simp
      · rintro e W' ⟨rfl, hb⟩
        exact ⟨_, rfl, hb, rfl⟩
    · -- 2
      cases ho
      have e1 : q.eval (.tmp 1) = .string user := (hout 1 (by decide)).trans rfl
      refine gives_read (v := .string user) ?_ rfl
      unfold execOp
      dsimp only
      rw [e1]
      go_simp
    · -- 3
      cases ho
      have e14 : q.eval (.tmp 14) = .string user := hdep ⟨2, .data⟩ (by simp) rfl (by decide)
      refine gives_call (f := 34) (args := #[.string ⟨#[117, 115, 101, 114, 110, 97, 109, 101]⟩, .string user]) ?_ ((leaf_any ⟨#[117, 115, 101, 114, 110, 97, 109, 101]⟩ user W hu).mono ?_)
      · unfold execOp
        dsimp only
        simp only [resolve, List.map_toArray, List.map_cons, List.map_nil, e14]
        go_simp
      · rintro e W' ⟨rfl, hb⟩
        exact ⟨_, rfl, hb, rfl⟩
    · -- 4
      cases ho
      refine gives_call (f := 34) (args := #[.string ⟨#[112, 97, 115, 115, 119, 111, 114, 100]⟩, .string ⟨#[]⟩]) ?_ ((leaf_any ⟨#[112, 97, 115, 115, 119, 111, 114, 100]⟩ ⟨#[]⟩ W (by decide)).mono ?_)
      · unfold execOp
        dsimp only
        simp only [resolve, List.map_toArray, List.map_cons, List.map_nil]
        go_simp
      · rintro e W' ⟨rfl, hb⟩
        exact ⟨_, rfl, hb, rfl⟩
    · -- 5
      cases ho
      have e13 : q.eval (.tmp 13) = .agg #[.string ⟨#[]⟩, .string ⟨#[105, 110, 115, 116, 114, 117, 99, 116, 105, 111, 110, 115]⟩, .slice none 0 0, .string ⟨#[69, 110, 116, 101, 114, 32, 121, 111, 117, 114, 32, 115, 99, 114, 101, 101, 110, 32, 110, 97, 109, 101, 32, 97, 110, 100, 32, 112, 97, 115, 115, 119, 111, 114, 100, 46]⟩, .slice none 0 0] := hdep ⟨1, .data⟩ (by simp) rfl (by decide)
      have e15 : q.eval (.tmp 15) = .agg #[.string ⟨#[]⟩, .string ⟨#[117, 115, 101, 114, 110, 97, 109, 101]⟩, .slice none 0 0, .string user, .slice none 0 0] := hdep ⟨3, .data⟩ (by simp) rfl (by decide)
      have e16 : q.eval (.tmp 16) = .agg #[.string ⟨#[]⟩, .string ⟨#[112, 97, 115, 115, 119, 111, 114, 100]⟩, .slice none 0 0, .string ⟨#[]⟩, .slice none 0 0] := hdep ⟨4, .data⟩ (by simp) rfl (by decide)
      refine gives_run (W' := W.alloc (.cells #[.string ⟨#[]⟩, .string ⟨#[105, 110, 115, 116, 114, 117, 99, 116, 105, 111, 110, 115]⟩, .slice none 0 0, .string ⟨#[69, 110, 116, 101, 114, 32, 121, 111, 117, 114, 32, 115, 99, 114, 101, 101, 110, 32, 110, 97, 109, 101, 32, 97, 110, 100, 32, 112, 97, 115, 115, 119, 111, 114, 100, 46]⟩, .slice none 0 0, .string ⟨#[]⟩, .string ⟨#[117, 115, 101, 114, 110, 97, 109, 101]⟩, .slice none 0 0, .string user, .slice none 0 0, .string ⟨#[]⟩, .string ⟨#[112, 97, 115, 115, 119, 111, 114, 100]⟩, .slice none 0 0, .string ⟨#[]⟩, .slice none 0 0] 30)) (v := .slice (some ⟨W.heap.size, 0, none⟩) 3 3) ?_ ((Below.refl _ W).alloc (Nat.le_refl _) _) (blk_new (by have := hbel.size; omega))
      unfold execOp
      dsimp only
      simp only [List.map_toArray, List.map_cons, List.map_nil, e13, e15, e16]
      go_simp
  · intro q W hq hbel hv
    have e12 : q.eval (.tmp 12) = .agg #[.string ⟨#[106, 97, 98, 98, 101, 114, 58, 105, 113, 58, 114, 101, 103, 105, 115, 116, 101, 114]⟩, .string ⟨#[113, 117, 101, 114, 121]⟩, .slice aA 0 cA, .string ⟨#[]⟩, .slice none 0 0] := hv 0 (by decide)
    obtain ⟨B, e17, hB, hBB⟩ : ∃ B, q.eval (.tmp 17) = .slice (some ⟨B, 0, none⟩) 3 3 ∧ W1.heap.size ≤ B ∧ W.heap[B]? = some (.cells #[.string ⟨#[]⟩, .string ⟨#[105, 110, 115, 116, 114, 117, 99, 116, 105, 111, 110, 115]⟩, .slice none 0 0, .string ⟨#[69, 110, 116, 101, 114, 32, 121, 111, 117, 114, 32, 115, 99, 114, 101, 101, 110, 32, 110, 97, 109, 101, 32, 97, 110, 100, 32, 112, 97, 115, 115, 119, 111, 114, 100, 46]⟩, .slice none 0 0, .string ⟨#[]⟩, .string ⟨#[117, 115, 101, 114, 110, 97, 109, 101]⟩, .slice none 0 0, .string user, .slice none 0 0, .string ⟨#[]⟩, .string ⟨#[112, 97, 115, 115, 119, 111, 114, 100]⟩, .slice none 0 0, .string ⟨#[]⟩, .slice none 0 0] 30 (0, 0)) := hv 5 (by decide)
    have HFW := Lib.hid (HF.out.st hbel)
    have CW := Lib.hid (HFW.out.with_ (aQ := some ⟨B, 0, none⟩) (cQ := 3) (qs := [lf ⟨#[105, 110, 115, 116, 114, 117, 99, 116, 105, 111, 110, 115]⟩ ⟨#[69, 110, 116, 101, 114, 32, 121, 111, 117, 114, 32, 115, 99, 114, 101, 101, 110, 32, 110, 97, 109, 101, 32, 97, 110, 100, 32, 112, 97, 115, 115, 119, 111, 114, 100, 46]⟩, lf ⟨#[117, 115, 101, 114, 110, 97, 109, 101]⟩ user, lf ⟨#[112, 97, 115, 115, 119, 111, 114, 100]⟩ ⟨#[]⟩]) W1 (heap_lt HF.out.tb) (fun b e => by cases e) (ks_3 hBB hB (by decide) (by decide) (by decide) hu (by decide) (by decide)) (by simp))
    have hq2 : q = canonL q [12, 13, 14, 15, 16, 17] _ := hq
    simp only [canonL] at hq2
    rw [e12, e17] at hq2
    clear hq hv e12 e17
    generalize q.eval (.tmp 13) = u13 at hq2
    generalize q.eval (.tmp 14) = u14 at hq2
    generalize q.eval (.tmp 15) = u15 at hq2
    generalize q.eval (.tmp 16) = u16 at hq2
    subst hq2
    clear hB hBB HF hbel
    go_wp2_with fail
    refine CW.out.mono ?_
    rintro r w2 ⟨a2, c2, rfl, ho, hg, hl⟩
    have hb9 := HFW.out.bel.grown hg HFW.out.bel.size (fun b e => by have := (HFW.out.oe.lt b e).1; omega)
    have hr9 := (hg.block _ (heap_lt HFW.out.rb) (fun e => by have := (HFW.out.oe.lt _ e.symm).1; omega)).trans HFW.out.rb
    have HFI := Lib.hid (fun u0 u1 u2 u3 u4 => ho.fin hb9 hr9 (Nat.le_refl _) (fun b h => h.1) (u0 := u0) (u1 := u1) (u2 := u2) (u3 := u3) (u4 := u4))
    obtain ⟨q0, q1, q2, q3, q4⟩ := bx5 hr9
    have p0 := Lib.frozen_of_heap hr9 0
    have p1 := Lib.frozen_of_heap hr9 1
    have p2 := Lib.frozen_of_heap hr9 2
    have p3 := Lib.frozen_of_heap hr9 3
    have p4 := Lib.frozen_of_heap hr9 4
    clear ho hg hl CW HFW hb9 hr9
    generalize hk9 : [] ++ [lf ⟨#[105, 110, 115, 116, 114, 117, 99, 116, 105, 111, 110, 115]⟩ ⟨#[69, 110, 116, 101, 114, 32, 121, 111, 117, 114, 32, 115, 99, 114, 101, 101, 110, 32, 110, 97, 109, 101, 32, 97, 110, 100, 32, 112, 97, 115, 115, 119, 111, 114, 100, 46]⟩, lf ⟨#[117, 115, 101, 114, 110, 97, 109, 101]⟩ user, lf ⟨#[112, 97, 115, 115, 119, 111, 114, 100]⟩ ⟨#[]⟩].map (reS ⟨#[106, 97, 98, 98, 101, 114, 58, 105, 113, 58, 114, 101, 103, 105, 115, 116, 101, 114]⟩) = k9 at HFI ⊢
    go_wp2_with fail
    refine bodyPost_ret (v := .agg #[.string ⟨#[106, 97, 98, 98, 101, 114, 58, 105, 113, 58, 114, 101, 103, 105, 115, 116, 101, 114]⟩, .string ⟨#[113, 117, 101, 114, 121]⟩, .slice aA 0 cA, .string ⟨#[]⟩, .slice a2 k9.length c2]) (by simp [results, Tryz.results9, go_sem, q0, q1, q2, q3, q4]) rfl ?_
    have hf := HFI.out (.string ⟨#[106, 97, 98, 98, 101, 114, 58, 105, 113, 58, 114, 101, 103, 105, 115, 116, 101, 114]⟩) (.string ⟨#[113, 117, 101, 114, 121]⟩) (.slice aA 0 cA) (.string ⟨#[]⟩) (.slice a2 k9.length c2)
    have hE : formE false user = .mk ⟨#[106, 97, 98, 98, 101, 114, 58, 105, 113, 58, 114, 101, 103, 105, 115, 116, 101, 114]⟩ ⟨#[113, 117, 101, 114, 121]⟩ [] ⟨#[]⟩ k9 := by rw [← hk9]; rfl
    rw [hE]
    exact ⟨_, rfl, hf.1, hf.2⟩
set_option maxRecDepth 100000 in
set_option maxHeartbeats 8000000 in
theorem form_t (user : ByteArray) (w : World) (hu : user.size ≤ 1048576) :
    Calls Tryz.prog 9 #[.bool true, .string user] w (ElP (formE true user) w) := by
  have HB0 : Hid (Below w.heap.size w (w.alloc (.cells #[.string ⟨#[]⟩, .string ⟨#[]⟩, .slice none 0 0, .string ⟨#[]⟩, .slice none 0 0] 30))) := (Below.refl _ w).alloc (Nat.le_refl _) _
  have HR0 : Hid ((w.alloc (.cells #[.string ⟨#[]⟩, .string ⟨#[]⟩, .slice none 0 0, .string ⟨#[]⟩, .slice none 0 0] 30)).heap[w.heap.size]? = some (.cells #[.string ⟨#[]⟩, .string ⟨#[]⟩, .slice none 0 0, .string ⟨#[]⟩, .slice none 0 0] 30 (0, 0))) := box_new w _ _
  go_enter Tryz.func9, Tryz.ntmps9
  go_wp2_with fail
  refine (new0_any ⟨#[106, 97, 98, 98, 101, 114, 58, 105, 113, 58, 114, 101, 103, 105, 115, 116, 101, 114]⟩ ⟨#[113, 117, 101, 114, 121]⟩ _ (by decide) (by decide)).mono ?_
  rintro r w1 ⟨aA, cA, rfl, hin, hb⟩
  have HB1 := Lib.hid (more HB0.out (Nat.le_refl _) hb)
  have HR1 := Lib.hid ((hb.block _ (heap_lt HR0.out)).trans HR0.out)
  have HF := Lib.hid (Fm.new HB1.out (Nat.le_refl _) HR1.out hin)
  clear hb hin HB0 HR0 HB1 HR1
  go_upto_region 3 with fail
  simp only [newA, List.length_nil] at HF ⊢
  generalize w1.alloc (.cells #[.string ⟨#[106, 97, 98, 98, 101, 114, 58, 105, 113, 58, 114, 101, 103, 105, 115, 116, 101, 114]⟩, .string ⟨#[113, 117, 101, 114, 121]⟩, .slice aA 0 cA, .string ⟨#[]⟩, .slice none 0 0] 30) = W1 at HF ⊢
  generalize w1.heap.size = T at HF ⊢
  refine region_psi 3 (fun j => [8, 9, 10].getD j 0) (psL [Pr.eq (.agg #[.string ⟨#[106, 97, 98, 98, 101, 114, 58, 105, 113, 58, 114, 101, 103, 105, 115, 116, 101, 114]⟩, .string ⟨#[113, 117, 101, 114, 121]⟩, .slice aA 0 cA, .string ⟨#[]⟩, .slice none 0 0]), Pr.eq (.agg #[.string ⟨#[]⟩, .string ⟨#[114, 101, 103, 105, 115, 116, 101, 114, 101, 100]⟩, .slice none 0 0, .string ⟨#[]⟩, .slice none 0 0]), Pr.blk (W1.heap.size) 1 #[.string ⟨#[]⟩, .string ⟨#[114, 101, 103, 105, 115, 116, 101, 114, 101, 100]⟩, .slice none 0 0, .string ⟨#[]⟩, .slice none 0 0] 30]) (by kernel_rfl) (by kernel_rfl) (by kernel_rfl) (by kernel_rfl) (by decide) (by kernel_rfl) (by kernel_rfl) (psL_mono _) ?_ ?_
  · intro i o hi ho q W hsz hout hbel hdep
    obtain ⟨x0, x1, x2, x3, x4⟩ := (HF.out.st hbel).load
    have hc : i = 0 ∨ i = 1 ∨ i = 2 := by omega
    rcases hc with rfl | rfl | rfl
    · -- 0
      cases ho
      have e5 : q.eval (.tmp 5) = .pointer (some ⟨T, 0, none⟩) := (hout 5 (by decide)).trans rfl
      refine gives_read (v := .agg #[.string ⟨#[106, 97, 98, 98, 101, 114, 58, 105, 113, 58, 114, 101, 103, 105, 115, 116, 101, 114]⟩, .string ⟨#[113, 117, 101, 114, 121]⟩, .slice aA 0 cA, .string ⟨#[]⟩, .slice none 0 0]) ?_ rfl
      unfold execOp
      dsimp only
      rw [e5]
      go_simp
    · -- 1
      cases ho
      refine gives_call (f := 34) (args := #[.string ⟨#[114, 101, 103, 105, 115, 116, 101, 114, 101, 100]⟩, .string ⟨#[]⟩]) ?_ ((leaf_any ⟨#[114, 101, 103, 105, 115, 116, 101, 114, 101, 100]⟩ ⟨#[]⟩ W (by decide)).mono ?_)
      · unfold execOp
        dsimp only
        simp only [resolve, List.map_toArray, List.map_cons, List.map_nil]
        go_simp
      · rintro e W' ⟨rfl, hb⟩
        exact ⟨_, rfl, hb, rfl⟩
    · -- 2
      cases ho
      have e9 : q.eval (.tmp 9) = .agg #[.string ⟨#[]⟩, .string ⟨#[114, 101, 103, 105, 115, 116, 101, 114, 101, 100]⟩, .slice none 0 0, .string ⟨#[]⟩, .slice none 0 0] := hdep ⟨1, .data⟩ (by simp) rfl (by decide)
      refine gives_run (W' := W.alloc (.cells #[.string ⟨#[]⟩, .string ⟨#[114, 101, 103, 105, 115, 116, 101, 114, 101, 100]⟩, .slice none 0 0, .string ⟨#[]⟩, .slice none 0 0] 30)) (v := .slice (some ⟨W.heap.size, 0, none⟩) 1 1) ?_ ((Below.refl _ W).alloc (Nat.le_refl _) _) (blk_new (by have := hbel.size; omega))
      unfold execOp
      dsimp only
      simp only [List.map_toArray, List.map_cons, List.map_nil, e9]
      go_simp
  · intro q W hq hbel hv
    have e8 : q.eval (.tmp 8) = .agg #[.string ⟨#[106, 97, 98, 98, 101, 114, 58, 105, 113, 58, 114, 101, 103, 105, 115, 116, 101, 114]⟩, .string ⟨#[113, 117, 101, 114, 121]⟩, .slice aA 0 cA, .string ⟨#[]⟩, .slice none 0 0] := hv 0 (by decide)
    obtain ⟨B, e10, hB, hBB⟩ : ∃ B, q.eval (.tmp 10) = .slice (some ⟨B, 0, none⟩) 1 1 ∧ W1.heap.size ≤ B ∧ W.heap[B]? = some (.cells #[.string ⟨#[]⟩, .string ⟨#[114, 101, 103, 105, 115, 116, 101, 114, 101, 100]⟩, .slice none 0 0, .string ⟨#[]⟩, .slice none 0 0] 30 (0, 0)) := hv 2 (by decide)
    have HFW := Lib.hid (HF.out.st hbel)
    have CW := Lib.hid (HFW.out.with_ (aQ := some ⟨B, 0, none⟩) (cQ := 1) (qs := [lf ⟨#[114, 101, 103, 105, 115, 116, 101, 114, 101, 100]⟩ ⟨#[]⟩]) W1 (heap_lt HF.out.tb) (fun b e => by cases e) (ks_1 hBB hB (by decide) (by decide)) (by simp))
    have hq2 : q = canonL q [8, 9, 10] _ := hq
    simp only [canonL] at hq2
    rw [e8, e10] at hq2
    clear hq hv e8 e10
    generalize q.eval (.tmp 9) = u9 at hq2
    subst hq2
    clear hB hBB HF hbel
    go_wp2_with fail
    refine CW.out.mono ?_
    rintro r w2 ⟨a2, c2, rfl, ho, hg, hl⟩
    generalize hks : ([] ++ [lf ⟨#[114, 101, 103, 105, 115, 116, 101, 114, 101, 100]⟩ ⟨#[]⟩].map (reS ⟨#[106, 97, 98, 98, 101, 114, 58, 105, 113, 58, 114, 101, 103, 105, 115, 116, 101, 114]⟩)) = ks at ho hl ⊢
    have HKS := Lib.hid hks
    have HLN : Hid (ks.length + 3 ≤ 1000) := by show _ ≤ _; rw [← hks]; simp
    clear hks
    have HF2 := Lib.hid (HFW.out.put ho hg hl)
    have ht2 := (hg.block _ (heap_lt HFW.out.tb) (fun e => HFW.out.nt e.symm)).trans HFW.out.tb
    obtain ⟨z0, z1, z2, z3, z4⟩ := bx5 ht2
    have f0 := Lib.frozen_of_heap ht2 0
    have f1 := Lib.frozen_of_heap ht2 1
    have f2 := Lib.frozen_of_heap ht2 2
    have f3 := Lib.frozen_of_heap ht2 3
    have f4 := Lib.frozen_of_heap ht2 4
    go_upto_region 4 with fail
    clear z0 z1 z2 z3 z4 f0 f1 f2 f3 f4 ht2 ho hg hl CW HFW
    have HF := HF2
    clear HF2
    generalize ((((w2.setCell ⟨T, 0, none⟩ (.string ⟨#[106, 97, 98, 98, 101, 114, 58, 105, 113, 58, 114, 101, 103, 105, 115, 116, 101, 114]⟩)).setCell ⟨T, 1, none⟩ (.string ⟨#[113, 117, 101, 114, 121]⟩)).setCell ⟨T, 2, none⟩ (.slice aA 0 cA)).setCell ⟨T, 3, none⟩ (.string ⟨#[]⟩)).setCell ⟨T, 4, none⟩ (.slice a2 ks.length c2) = W3 at HF ⊢
    refine region_psi 6 (fun j => [12, 13, 14, 15, 16, 17].getD j 0) (psL [Pr.eq (.agg #[.string ⟨#[106, 97, 98, 98, 101, 114, 58, 105, 113, 58, 114, 101, 103, 105, 115, 116, 101, 114]⟩, .string ⟨#[113, 117, 101, 114, 121]⟩, .slice aA 0 cA, .string ⟨#[]⟩, .slice a2 ks.length c2]), Pr.eq (.agg #[.string ⟨#[]⟩, .string ⟨#[105, 110, 115, 116, 114, 117, 99, 116, 105, 111, 110, 115]⟩, .slice none 0 0, .string ⟨#[69, 110, 116, 101, 114, 32, 121, 111, 117, 114, 32, 115, 99, 114, 101, 101, 110, 32, 110, 97, 109, 101, 32, 97, 110, 100, 32, 112, 97, 115, 115, 119, 111, 114, 100, 46]⟩, .slice none 0 0]), Pr.eq (.string user), Pr.eq (.agg #[.string ⟨#[]⟩, .string ⟨#[117, 115, 101, 114, 110, 97, 109, 101]⟩, .slice none 0 0, .string user, .slice none 0 0]), Pr.eq (.agg #[.string ⟨#[]⟩, .string ⟨#[112, 97, 115, 115, 119, 111, 114, 100]⟩, .slice none 0 0, .string ⟨#[]⟩, .slice none 0 0]), Pr.blk (W3.heap.size) 3 #[.string ⟨#[]⟩, .string ⟨#[105, 110, 115, 116, 114, 117, 99, 116, 105, 111, 110, 115]⟩, .slice none 0 0, .string ⟨#[69, 110, 116, 101, 114, 32, 121, 111, 117, 114, 32, 115, 99, 114, 101, 101, 110, 32, 110, 97, 109, 101, 32, 97, 110, 100, 32, 112, 97, 115, 115, 119, 111, 114, 100, 46]⟩, .slice none 0 0, .string ⟨#[]⟩, .string ⟨#[117, 115, 101, 114, 110, 97, 109, 101]⟩, .slice none 0 0, .string user, .slice none 0 0, .string ⟨#[]⟩, .string ⟨#[112, 97, 115, 115, 119, 111, 114, 100]⟩, .slice none 0 0, .string ⟨#[]⟩, .slice none 0 0] 30]) (by kernel_rfl) (by kernel_rfl) (by kernel_rfl) (by kernel_rfl) (by decide) (by kernel_rfl) (by kernel_rfl) (psL_mono _) ?_ ?_
    · intro i o hi ho q W hsz hout hbel hdep
      obtain ⟨x0, x1, x2, x3, x4⟩ := (HF.out.st hbel).load
      have hc : i = 0 ∨ i = 1 ∨ i = 2 ∨ i = 3 ∨ i = 4 ∨ i = 5 := by omega
      rcases hc with rfl | rfl | rfl | rfl | rfl | rfl
      · -- 0
        cases ho
        have e5 : q.eval (.tmp 5) = .pointer (some ⟨T, 0, none⟩) := (hout 5 (by decide)).trans rfl
        refine gives_read (v := .agg #[.string ⟨#[106, 97, 98, 98, 101, 114, 58, 105, 113, 58, 114, 101, 103, 105, 115, 116, 101, 114]⟩, .string ⟨#[113, 117, 101, 114, 121]⟩, .slice aA 0 cA, .string ⟨#[]⟩, .slice a2 ks.length c2]) ?_ rfl
        unfold execOp
        dsimp only
        rw [e5]
        go_simp
      · -- 1
        cases ho
        refine gives_call (f := 34) (args := #[.string ⟨#[105, 110, 115, 116, 114, 117, 99, 116, 105, 111, 110, 115]⟩, .string ⟨#[69, 110, 116, 101, 114, 32, 121, 111, 117, 114, 32, 115, 99, 114, 101, 101, 110, 32, 110, 97, 109, 101, 32, 97, 110, 100, 32, 112, 97, 115, 115, 119, 111, 114, 100, 46]⟩]) ?_ ((leaf_any ⟨#[105, 110, 115, 116, 114, 117, 99, 116, 105, 111, 110, 115]⟩ ⟨#[69, 110, 116, 101, 114, 32, 121, 111, 117, 114, 32, 115, 99, 114, 101, 101, 110, 32, 110, 97, 109, 101, 32, 97, 110, 100, 32, 112, 97, 115, 115, 119, 111, 114, 100, 46]⟩ W (by decide)).mono ?_)
        · unfold execOp
          dsimp only
          simp only [resolve, List.map_toArray, List.map_cons, List.map_nil]
          go_simp
        · rintro e W' ⟨rfl, hb⟩
          exact ⟨_, rfl, hb, rfl⟩
      · -- 2
        cases ho
        have e1 : q.eval (.tmp 1) = .string user := (hout 1 (by decide)).trans rfl
        refine gives_read (v := .string user) ?_ rfl
        unfold execOp
        dsimp only
        rw [e1]
        go_simp
      · -- 3
        cases ho
        have e14 : q.eval (.tmp 14) = .string user := hdep ⟨2, .data⟩ (by simp) rfl (by decide)
        refine gives_call (f := 34) (args := #[.string ⟨#[117, 115, 101, 114, 110, 97, 109, 101]⟩, .string user]) ?_ ((leaf_any ⟨#[117, 115, 101, 114, 110, 97, 109, 101]⟩ user W hu).mono ?_)
        · unfold execOp
          dsimp only
          simp only [resolve, List.map_toArray, List.map_cons, List.map_nil, e14]
          go_simp
        · rintro e W' ⟨rfl, hb⟩
          exact ⟨_, rfl, hb, rfl⟩
      · -- 4
        cases ho
        refine gives_call (f := 34) (args := #[.string ⟨#[112, 97, 115, 115, 119, 111, 114, 100]⟩, .string ⟨#[]⟩]) ?_ ((leaf_any ⟨#[112, 97, 115, 115, 119, 111, 114, 100]⟩ ⟨#[]⟩ W (by decide)).mono ?_)
        · unfold execOp
          dsimp only
          simp only [resolve, List.map_toArray, List.map_cons, List.map_nil]
          go_simp
        · rintro e W' ⟨rfl, hb⟩
          exact ⟨_, rfl, hb, rfl⟩
      · -- 5
        cases ho
        have e13 : q.eval (.tmp 13) = .agg #[.string ⟨#[]⟩, .string ⟨#[105, 110, 115, 116, 114, 117, 99, 116, 105, 111, 110, 115]⟩, .slice none 0 0, .string ⟨#[69, 110, 116, 101, 114, 32, 121, 111, 117, 114, 32, 115, 99, 114, 101, 101, 110, 32, 110, 97, 109, 101, 32, 97, 110, 100, 32, 112, 97, 115, 115, 119, 111, 114, 100, 46]⟩, .slice none 0 0] := hdep ⟨1, .data⟩ (by simp) rfl (by decide)
        have e15 : q.eval (.tmp 15) = .agg #[.string ⟨#[]⟩, .string ⟨#[117, 115, 101, 114, 110, 97, 109, 101]⟩, .slice none 0 0, .string user, .slice none 0 0] := hdep ⟨3, .data⟩ (by simp) rfl (by decide)
        have e16 : q.eval (.tmp 16) = .agg #[.string ⟨#[]⟩, .string ⟨#[112, 97, 115, 115, 119, 111, 114, 100]⟩, .slice none 0 0, .string ⟨#[]⟩, .slice none 0 0] := hdep ⟨4, .data⟩ (by simp) rfl (by decide)
        refine gives_run (W' := W.alloc (.cells #[.string ⟨#[]⟩, .string ⟨#[105, 110, 115, 116, 114, 117, 99, 116, 105, 111, 110, 115]⟩, .slice none 0 0, .string ⟨#[69, 110, 116, 101, 114, 32, 121, 111, 117, 114, 32, 115, 99, 114, 101, 101, 110, 32, 110, 97, 109, 101, 32, 97, 110, 100, 32, 112, 97, 115, 115, 119, 111, 114, 100, 46]⟩, .slice none 0 0, .string ⟨#[]⟩, .string ⟨#[117, 115, 101, 114, 110, 97, 109, 101]⟩, .slice none 0 0, .string user, .slice none 0 0, .string ⟨#[]⟩, .string ⟨#[112, 97, 115, 115, 119, 111, 114, 100]⟩, .slice none 0 0, .string ⟨#[]⟩, .slice none 0 0] 30)) (v := .slice (some ⟨W.heap.size, 0, none⟩) 3 3) ?_ ((Below.refl _ W).alloc (Nat.le_refl _) _) (blk_new (by have := hbel.size; omega))
        unfold execOp
        dsimp only
        simp only [List.map_toArray, List.map_cons, List.map_nil, e13, e15, e16]
        go_simp
    · intro q W hq hbel hv
      have e12 : q.eval (.tmp 12) = .agg #[.string ⟨#[106, 97, 98, 98, 101, 114, 58, 105, 113, 58, 114, 101, 103, 105, 115, 116, 101, 114]⟩, .string ⟨#[113, 117, 101, 114, 121]⟩, .slice aA 0 cA, .string ⟨#[]⟩, .slice a2 ks.length c2] := hv 0 (by decide)
      obtain ⟨B, e17, hB, hBB⟩ : ∃ B, q.eval (.tmp 17) = .slice (some ⟨B, 0, none⟩) 3 3 ∧ W3.heap.size ≤ B ∧ W.heap[B]? = some (.cells #[.string ⟨#[]⟩, .string ⟨#[105, 110, 115, 116, 114, 117, 99, 116, 105, 111, 110, 115]⟩, .slice none 0 0, .string ⟨#[69, 110, 116, 101, 114, 32, 121, 111, 117, 114, 32, 115, 99, 114, 101, 101, 110, 32, 110, 97, 109, 101, 32, 97, 110, 100, 32, 112, 97, 115, 115, 119, 111, 114, 100, 46]⟩, .slice none 0 0, .string ⟨#[]⟩, .string ⟨#[117, 115, 101, 114, 110, 97, 109, 101]⟩, .slice none 0 0, .string user, .slice none 0 0, .string ⟨#[]⟩, .string ⟨#[112, 97, 115, 115, 119, 111, 114, 100]⟩, .slice none 0 0, .string ⟨#[]⟩, .slice none 0 0] 30 (0, 0)) := hv 5 (by decide)
      have HFW := Lib.hid (HF.out.st hbel)
      have CW := Lib.hid (HFW.out.with_ (aQ := some ⟨B, 0, none⟩) (cQ := 3) (qs := [lf ⟨#[105, 110, 115, 116, 114, 117, 99, 116, 105, 111, 110, 115]⟩ ⟨#[69, 110, 116, 101, 114, 32, 121, 111, 117, 114, 32, 115, 99, 114, 101, 101, 110, 32, 110, 97, 109, 101, 32, 97, 110, 100, 32, 112, 97, 115, 115, 119, 111, 114, 100, 46]⟩, lf ⟨#[117, 115, 101, 114, 110, 97, 109, 101]⟩ user, lf ⟨#[112, 97, 115, 115, 119, 111, 114, 100]⟩ ⟨#[]⟩]) W3 (heap_lt HF.out.tb) (fun b e => (HF.out.oe.lt b e).2) (ks_3 hBB hB (by decide) (by decide) (by decide) hu (by decide) (by decide)) HLN.out)
      have hq2 : q = canonL q [12, 13, 14, 15, 16, 17] _ := hq
      simp only [canonL] at hq2
      rw [e12, e17] at hq2
      clear hq hv e12 e17
      generalize q.eval (.tmp 13) = u13 at hq2
      generalize q.eval (.tmp 14) = u14 at hq2
      generalize q.eval (.tmp 15) = u15 at hq2
      generalize q.eval (.tmp 16) = u16 at hq2
      subst hq2
      clear hB hBB HF hbel
      go_wp2_with fail
      refine CW.out.mono ?_
      rintro r w2 ⟨a3, c3, rfl, ho, hg, hl⟩
      have hb9 := HFW.out.bel.grown hg HFW.out.bel.size (fun b e => by have := (HFW.out.oe.lt b e).1; omega)
      have hr9 := (hg.block _ (heap_lt HFW.out.rb) (fun e => by have := (HFW.out.oe.lt _ e.symm).1; omega)).trans HFW.out.rb
      have HFI := Lib.hid (fun u0 u1 u2 u3 u4 => ho.fin hb9 hr9 (Nat.le_refl _) (fun b h => h.1) (u0 := u0) (u1 := u1) (u2 := u2) (u3 := u3) (u4 := u4))
      obtain ⟨q0, q1, q2, q3, q4⟩ := bx5 hr9
      have p0 := Lib.frozen_of_heap hr9 0
      have p1 := Lib.frozen_of_heap hr9 1
      have p2 := Lib.frozen_of_heap hr9 2
      have p3 := Lib.frozen_of_heap hr9 3
      have p4 := Lib.frozen_of_heap hr9 4
      clear ho hg hl CW HFW hb9 hr9
      generalize hk9 : ks ++ [lf ⟨#[105, 110, 115, 116, 114, 117, 99, 116, 105, 111, 110, 115]⟩ ⟨#[69, 110, 116, 101, 114, 32, 121, 111, 117, 114, 32, 115, 99, 114, 101, 101, 110, 32, 110, 97, 109, 101, 32, 97, 110, 100, 32, 112, 97, 115, 115, 119, 111, 114, 100, 46]⟩, lf ⟨#[117, 115, 101, 114, 110, 97, 109, 101]⟩ user, lf ⟨#[112, 97, 115, 115, 119, 111, 114, 100]⟩ ⟨#[]⟩].map (reS ⟨#[106, 97, 98, 98, 101, 114, 58, 105, 113, 58, 114, 101, 103, 105, 115, 116, 101, 114]⟩) = k9 at HFI ⊢
      go_wp2_with fail
      refine bodyPost_ret (v := .agg #[.string ⟨#[106, 97, 98, 98, 101, 114, 58, 105, 113, 58, 114, 101, 103, 105, 115, 116, 101, 114]⟩, .string ⟨#[113, 117, 101, 114, 121]⟩, .slice aA 0 cA, .string ⟨#[]⟩, .slice a3 k9.length c3]) (by simp [results, Tryz.results9, go_sem, q0, q1, q2, q3, q4]) rfl ?_
      have hf := HFI.out (.string ⟨#[106, 97, 98, 98, 101, 114, 58, 105, 113, 58, 114, 101, 103, 105, 115, 116, 101, 114]⟩) (.string ⟨#[113, 117, 101, 114, 121]⟩) (.slice aA 0 cA) (.string ⟨#[]⟩) (.slice a3 k9.length c3)
      have hE : formE true user = .mk ⟨#[106, 97, 98, 98, 101, 114, 58, 105, 113, 58, 114, 101, 103, 105, 115, 116, 101, 114]⟩ ⟨#[113, 117, 101, 114, 121]⟩ [] ⟨#[]⟩ k9 := by rw [← hk9, ← HKS.out]; rfl
      rw [hE]
      exact ⟨_, rfl, hf.1, hf.2⟩
theorem form_any (b : Bool) (user : ByteArray) (w : World) (hu : user.size ≤ 1048576) : Calls Tryz.prog 9 #[.bool b, .string user] w (ElP (formE b user) w) := by
  cases b
  · exact form_f user w hu
  · exact form_t user w hu
theorem bx3 {w : World} {b : Nat} {v0 v1 v2 : Value} {t : TypeId} {fz : Nat × Nat} (h : w.heap[b]? = some (.cells #[v0, v1, v2] t fz)) :
    w.cell? ⟨b, 0, none⟩ = some v0 ∧ w.cell? ⟨b, 1, none⟩ = some v1 ∧ w.cell? ⟨b, 2, none⟩ = some v2 := by
  refine ⟨?_, ?_, ?_⟩ <;> (rw [Lib.cell_of_heap h]; rfl)
theorem putB_size (n d r : ByteArray) (h1 : n.size ≤ 300000) (h2 : d.size ≤ 300000) (h3 : r.size ≤ 300000) : (Jn.putB n d r).size ≤ 1048576 := by
  have := Jd.put_len ⟨n.data.toList, d.data.toList, r.data.toList⟩
  unfold Jn.putB
  rw [Jn.mk_size]
  rw [Lib.size_eq] at h1 h2 h3
  simp only at this
  omega
set_option maxRecDepth 100000 in
set_option maxHeartbeats 8000000 in
theorem format_any (n : Int) (w : World) (h0 : 0 ≤ n) (h1 : n ≤ 9223372036854775807) (ht : Lib.TabIs Tryz.prog w "internal/strconv.uint64pow10" .u64 Lib.pow10Tab) :
    Calls Tryz.prog 38 #[.int .i64 n, .int .i64 10] w fun e w' => e = .returned (.string ⟨(Lib.itoa n).toArray⟩) ∧ Below w.heap.size w w' :=
  (Any.strconv_FormatInt_10 Tryz.laysM173 n (by omega) h1 w ht).mono fun _ _ ⟨he, k, os, hw⟩ => ⟨he, by rw [hw]; exact Lib.below_grow _ _ (Nat.le_refl _) k os⟩
theorem digits_size (n : Int) (h0 : -9223372036854775808 ≤ n) (h1 : n ≤ 9223372036854775807) : (digits n).size ≤ 21 := by
  have := Lib.itoa_length_le (max n 0) (by omega) (by omega)
  unfold digits
  rw [Lib.size_eq]
  exact this
set_option maxRecDepth 100000 in
set_option maxHeartbeats 8000000 in
theorem last_any (n : Int) (w : World) (h0 : -9223372036854775808 ≤ n) (h1 : n ≤ 9223372036854775807) (hG : Gd w) :
    Calls Tryz.prog 19 #[.int .i64 n] w (ElP (lastE n) w) := by
  have hds := digits_size n h0 h1
  have HB0 : Hid (Below w.heap.size w (w.alloc (.cells #[.string ⟨#[]⟩, .string ⟨#[]⟩, .slice none 0 0, .string ⟨#[]⟩, .slice none 0 0] 30))) := (Below.refl _ w).alloc (Nat.le_refl _) _
  have HR0 : Hid ((w.alloc (.cells #[.string ⟨#[]⟩, .string ⟨#[]⟩, .slice none 0 0, .string ⟨#[]⟩, .slice none 0 0] 30)).heap[w.heap.size]? = some (.cells #[.string ⟨#[]⟩, .string ⟨#[]⟩, .slice none 0 0, .string ⟨#[]⟩, .slice none 0 0] 30 (0, 0))) := box_new w _ _
  have CF := Lib.hid (format_any (max n 0) (w.alloc (.cells #[.string ⟨#[]⟩, .string ⟨#[]⟩, .slice none 0 0, .string ⟨#[]⟩, .slice none 0 0] 30)) (by omega) (by omega) (hG.tab _ HB0.out))
  have HDG : Hid ((⟨(Lib.itoa (max n 0)).toArray⟩ : ByteArray) = digits n) := rfl
  rw [HDG.out] at CF
  clear hG HDG
  go_enter Tryz.func19, Tryz.ntmps19
  go_wp2_with fail
  refine CF.out.mono ?_
  rintro r w1 ⟨rfl, hb⟩
  have HB1 := Lib.hid (more HB0.out (Nat.le_refl _) hb)
  have HR1 := Lib.hid ((hb.block _ (heap_lt HR0.out)).trans HR0.out)
  clear hb HB0 HR0 CF
  have HB2 := Lib.hid (HB1.out.alloc HB1.out.size (.cells #[.string ⟨#[115, 101, 99, 111, 110, 100, 115]⟩, .string (digits n)] 9))
  have HR2 := Lib.hid ((Below.heap_alloc w1 (.cells #[.string ⟨#[115, 101, 99, 111, 110, 100, 115]⟩, .string (digits n)] 9) _ (heap_lt HR1.out)).trans HR1.out)
  have hQ := box_new w1 #[.string ⟨#[115, 101, 99, 111, 110, 100, 115]⟩, .string (digits n)] 9
  have HN := Lib.hid (new_any ⟨#[106, 97, 98, 98, 101, 114, 58, 105, 113, 58, 108, 97, 115, 116]⟩ ⟨#[113, 117, 101, 114, 121]⟩ [⟨#[115, 101, 99, 111, 110, 100, 115]⟩, digits n] (some ⟨w1.heap.size, 0, none⟩) 2 (w1.alloc (.cells #[.string ⟨#[115, 101, 99, 111, 110, 100, 115]⟩, .string (digits n)] 9)) (by decide) (by decide) (by simp) (fun s hs => by
    rcases List.mem_cons.1 hs with rfl | hs
    · decide
    · rcases List.mem_cons.1 hs with rfl | hs
      · omega
      · cases hs) (fun i hi => ⟨_, rfl, by
    have hi2 : i < 2 := hi
    rw [Lib.cell_of_heap hQ]
    have hc : i = 0 ∨ i = 1 := by omega
    rcases hc with rfl | rfl <;> rfl⟩))
  have hwl := heap_lt HR1.out
  clear hQ HB1 HR1
  go_wp2_with fail
  refine HN.out.mono ?_
  rintro r w3 ⟨a2, c2, rfl, hin, hb⟩
  have ho := (Oe.new hin (w.heap.size + 1)).weak (S' := fun b => w.heap.size < b) (fun b _ h => by simp at h; omega) (Nat.le_refl _)
  have hb9 := more HB2.out (Nat.le_refl _) hb
  have hr9 := (hb.block _ (heap_lt HR2.out)).trans HR2.out
  clear hb hin HB2 HR2 HN
  have HFI := Lib.hid (fun u0 u1 u2 u3 u4 => ho.fin hb9 hr9 (Nat.le_refl _) (fun b h => h) (u0 := u0) (u1 := u1) (u2 := u2) (u3 := u3) (u4 := u4))
  obtain ⟨q0, q1, q2, q3, q4⟩ := bx5 hr9
  have p0 := Lib.frozen_of_heap hr9 0
  have p1 := Lib.frozen_of_heap hr9 1
  have p2 := Lib.frozen_of_heap hr9 2
  have p3 := Lib.frozen_of_heap hr9 3
  have p4 := Lib.frozen_of_heap hr9 4
  clear ho hb9 hr9
  generalize hk9 : newA [⟨#[115, 101, 99, 111, 110, 100, 115]⟩, digits n] = at9 at HFI ⊢
  go_wp2_with fail
  refine bodyPost_ret (v := .agg #[.string ⟨#[106, 97, 98, 98, 101, 114, 58, 105, 113, 58, 108, 97, 115, 116]⟩, .string ⟨#[113, 117, 101, 114, 121]⟩, .slice a2 at9.length c2, .string ⟨#[]⟩, .slice none 0 0]) (by simp [results, Tryz.results19, go_sem, q0, q1, q2, q3, q4]) rfl ?_
  have hf := HFI.out (.string ⟨#[106, 97, 98, 98, 101, 114, 58, 105, 113, 58, 108, 97, 115, 116]⟩) (.string ⟨#[113, 117, 101, 114, 121]⟩) (.slice a2 at9.length c2) (.string ⟨#[]⟩) (.slice none 0 0)
  have hE : lastE n = .mk ⟨#[106, 97, 98, 98, 101, 114, 58, 105, 113, 58, 108, 97, 115, 116]⟩ ⟨#[113, 117, 101, 114, 121]⟩ at9 ⟨#[]⟩ [] := by rw [← hk9]; rfl
  rw [hE]
  exact ⟨_, rfl, hf.1, hf.2⟩
end Go.Proofs.YtlklmoohoobjjaaGreatDoor
