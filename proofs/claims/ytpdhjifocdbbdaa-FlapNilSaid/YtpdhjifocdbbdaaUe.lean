/- Contracts: take; a reader's cells when they turn. Conditions: those of each theorem's head. -/
import Derived.Test.YtpdhjifocdbbdaaUd
namespace Go.Proofs.Ytpdhjifocdbbdaa
open Go.RowKit Go.Lib

section
variable {N R : Nat} {w : World} {v : Value} {l : List UInt8} {z : Int} {p : Option Int} {e : Int}
theorem box_apart {cs : Array Value} (h : w.heap[R]? = some (.cells cs 52 (0, 0))) {v' : Value} {n : Nat} {xs : List Value} (hr : w.ownsRow N 5 1 v' n xs) {b : Nat} (hb : v'.ownBlock = some b) : b ≠ R := fun k => by
  obtain ⟨_, cur, hc⟩ := own_heap hr hb
  rw [k, h] at hc
  injection hc with hc
  injection hc with _ hc _
  exact absurd hc (by decide)
theorem Rk.apart (h : Rk N R w v l z p e) {v' : Value} {n : Nat} {xs : List Value} (hr : w.ownsRow N 5 1 v' n xs) {b : Nat} (hb : v'.ownBlock = some b) : b ≠ R := fun k => by
  obtain ⟨_, cur, hc⟩ := own_heap hr hb
  rw [k, h.box] at hc
  injection hc with hc
  injection hc with _ hc _
  exact absurd hc (by decide)
theorem Rk.setV (h : Rk N R w v l z p e) {v' : Value} {l' : List UInt8} (hr : w.ownsRow N 5 1 v' l'.length (byteV l')) : Rk N R (w.setCell ⟨R, 0, none⟩ v') v' l' z p e :=
  ⟨setI h.box 0 _, own_keep hr fun _ hb => setCell_other (h.apart hr hb), h.le⟩
theorem rk_setV (h : w.heap[R]? = some (.cells (rcells v z p e) 52 (0, 0))) (hN : N ≤ R) {v' : Value} {l' : List UInt8} (hr : w.ownsRow N 5 1 v' l'.length (byteV l')) : Rk N R (w.setCell ⟨R, 0, none⟩ v') v' l' z p e :=
  ⟨setI h 0 _, own_keep hr fun _ hb => setCell_other (box_apart h hr hb), hN⟩
theorem Rk.setE (h : Rk N R w v l z p e) (e' : Int) : Rk N R (w.setCell ⟨R, 4, none⟩ (.int .i64 e')) v l z p e' :=
  ⟨setI h.box 4 _, own_keep h.row fun _ hb => setCell_other (h.apart h.row hb), h.le⟩
theorem Rk.setP (h : Rk N R w v l z p e) (q : Int) : Rk N R ((w.setCell ⟨R, 2, none⟩ (.int .i64 q)).setCell ⟨R, 3, none⟩ (.bool true)) v l z (some q) e :=
  ⟨setI (setI h.box 2 _) 3 _, own_keep h.row fun _ hb => (setCell_other (h.apart h.row hb)).trans (setCell_other (h.apart h.row hb)), h.le⟩
theorem Rk.reset (h : Rk N R w v l z p e) : Rk N R ((w.setCell ⟨R, 0, none⟩ (.slice none 0 0)).setCell ⟨R, 1, none⟩ (.int .i64 0)) (.slice none 0 0) [] 0 p e :=
  ⟨setI (setI h.box 0 _) 1 _, World.ownsRow_nil _ _ _ _, h.le⟩
/-- A row of the reader's own bytes grew, or one of the caller's own. -/
theorem Rk.other (h : Rk N R w v l z p e) {w' : World} {row : Option Nat} (hg : w.grownBy w' row) (hr : row ≠ some R) (hv : ∀ b, v.ownBlock = some b → row ≠ some b) : Rk N R w' v l z p e :=
  ⟨(hg.block R (heap_lt h.box) (fun k => hr k.symm)).trans h.box, own_keep h.row fun b hb => hg.block b (by obtain ⟨_, _, hc⟩ := own_heap h.row hb; exact heap_lt hc) (fun k => hv b hb k.symm), h.le⟩
theorem infoU8' : (Try.prog.info? 5).map (fun i => (i.zero, i.size, i.bytes)) = some (some (.int .u8 0), 1, 1) := infoU8
/-- What take leaves. -/
def TkP (N R : Nat) (w : World) (p : Option Int) (l : List UInt8) (e' : Ending) (w' : World) : Prop :=
  e' = .returned (.tuple #[]) ∧ Ch N R w w' ∧ ∃ v', (lookE p l = 0 → Rk N R w' v' l (szv l) p 0) ∧ (lookE p l ≠ 0 → Rk N R w' v' [] 0 p (lookE p l))
theorem szv_snoc (b : List UInt8) (c : UInt8) : (if (b ++ [c]).length = 6 then (sz (b ++ [c]) : Int) else (szv b : Int)) = szv (b ++ [c]) := by
  have hl : (b ++ [c]).length = b.length + 1 := by simp
  unfold szv
  by_cases k : (b ++ [c]).length = 6
  · rw [if_pos k, if_pos (by omega)]
  rw [if_neg k]
  by_cases k2 : 6 ≤ b.length
  · rw [if_pos k2, if_pos (by omega), sz_app k2]
  · rw [if_neg k2, if_neg (by omega)]
theorem byteV_snoc (b : List UInt8) (c : UInt8) : byteV (b ++ [c]) = byteV b ++ [.int .u8 (c.toNat : Int)] := by simp [byteV]
set_option maxRecDepth 100000 in
set_option maxHeartbeats 4000000 in
theorem take_any {b : List UInt8} (h : Rk N R w v b (szv b) p 0) (hm : b.length ≤ 100000) (c : UInt8) (hN : N ≤ w.heap.size) :
    Calls Try.prog 22 #[.pointer (some ⟨R, 0, none⟩), .int .u8 (c.toNat : Int)] w (TkP N R w p (b ++ [c])) := by
  have HP : Hid (∀ W v', (lookE p (b ++ [c]) = 0 → Rk N R W v' (b ++ [c]) (szv (b ++ [c])) p 0) → (lookE p (b ++ [c]) ≠ 0 → Rk N R W v' [] 0 p (lookE p (b ++ [c]))) → Ch N R w W → TkP N R w p (b ++ [c]) (.returned (.tuple #[])) W) := fun W v' a1 a2 a3 => ⟨rfl, a3, v', a1, a2⟩
  generalize hq : TkP N R w p (b ++ [c]) = POST at HP ⊢
  clear hq
  have HZ := Lib.hid (szv_snoc b c)
  have hbw : Below w.heap.size w (w.alloc (.cells #[.int .u8 (c.toNat : Int)] 5)) := (Below.refl _ w).alloc (Nat.le_refl _) _
  have HC := Lib.hid ((Ch.refl N R w).below hbw)
  have H := Lib.hid (h.below hbw)
  have hsz := hbw.size
  obtain ⟨c0, _⟩ := h.cells
  have HLE := Lib.hid h.le
  generalize hk : b.length = k at hm
  have HK := Lib.hid hk
  have HR : Hid ((w.alloc (.cells #[.int .u8 (c.toNat : Int)] 5)).ownsRow N 5 1 v k (byteV b)) := by
    show World.ownsRow _ _ _ _ _ _ _
    rw [← hk]
    exact H.out.row
  clear hbw h hk
  obtain ⟨i0, hi0, hz0, hz1, hz2⟩ := info_parts infoU8
  go_enter Try.func22, Try.ntmps22
  go_wp2_with (at_builtin; refine wpList_append_lies _ rfl _ _ 47 rfl N 5 i0 _ 1 1 Try.underlying47 hi0 hz0 hz1 hz2 rfl (by decide) _ k (byteV b) rfl HR.out ⟨w.heap.size, 0, none⟩ 1 1 [.int .u8 (c.toNat : Int)] rfl rfl (World.news_of_block (cs := #[.int .u8 (c.toNat : Int)]) (t := 5) (fr := (0, 0)) (heap_alloc_new w _)) (by simp [Value.oneCell']) (by decide) (by unfold maxLen; omega) (by omega) (by omega) _ rfl ?_; intro g9 cap w5 hown hgrow hat9 hlt5; have hbx := (hgrow.block R (heap_lt H.out.box) (fun q => H.out.apart H.out.row q.symm rfl)).trans H.out.box; have hgr := HC.out.grown hgrow (fun b9 e9 => own_heap H.out.row e9); have HGR := Lib.hid hgr; clear hgr; have HO5 : Hid (w5.ownsRow N 5 1 (.slice (some ⟨g9, 0, none⟩) (k + 1) cap) (k + 1) (byteV b ++ [.int .u8 (c.toNat : Int)])) := hown; clear hown hgrow hat9 HC HR; have HBX := Lib.hid hbx; have hx1 : w5.frozen? ⟨R, 0, none⟩ = false := (by simp [World.frozen?, hbx]); have hx0 : w5.cell? ⟨R, 0, none⟩ = some v := Lib.cell_of_heap hbx 0; clear hbx)
  have HL : Hid ((b ++ [c]).length = k + 1) := by show _ = _; rw [List.length_append, HK.out]; rfl
  have hv : Rk N R (w5.setCell ⟨R, 0, none⟩ (.slice (some ⟨g9, 0, none⟩) (k + 1) cap)) (.slice (some ⟨g9, 0, none⟩) (k + 1) cap) (b ++ [c]) (szv b) p 0 :=
    rk_setV HBX.out HLE.out (by rw [byteV_snoc, HL.out]; exact HO5.out)
  refine (look_any hv).mono ?_
  rintro e' w6 ⟨rfl, h6, hc6⟩
  rw [HZ.out] at h6
  have HC6 := Lib.hid ((HGR.out.set HLE.out 0 (.slice (some ⟨g9, 0, none⟩) (k + 1) cap)).trans hc6)
  have y4 := h6.free 4
  obtain ⟨_, _, _, _, x4⟩ := h6.cells
  have H6 := Lib.hid h6
  clear h6 hc6 hv HBX HGR HO5 HZ H hx0 hx1
  generalize lookE p (b ++ [c]) = E at HP ⊢
  have H7 := Lib.hid (H6.out.setE E)
  have HC7 := Lib.hid (HC6.out.set HLE.out 4 (.int .i64 E))
  by_cases hE : E = 0
  · subst hE
    clear H6 HC6
    go_wp2_with fail
    refine bodyPost_end (results_none rfl _ _ _) rfl ?_
    exact HP.out _ _ (fun _ => H7.out) (fun q => absurd rfl q) HC7.out
  · have e1 : (E != 0) = true := by simpa using hE
    have HR8 := Lib.hid H7.out.reset
    have HC8 := Lib.hid ((HC7.out.set HLE.out 0 (.slice none 0 0)).set HLE.out 1 (.int .i64 0))
    obtain ⟨z0, z1, _, _, z4⟩ := H7.out.cells
    have u0 := H7.out.free 0
    have u1 := H7.out.free 1
    clear H6 HC6
    go_wp2_with fail
    refine bodyPost_end (results_none rfl _ _ _) rfl ?_
    exact HP.out _ _ (fun q => absurd q hE) (fun _ => HR8.out) HC8.out
end
end Go.Proofs.Ytpdhjifocdbbdaa
