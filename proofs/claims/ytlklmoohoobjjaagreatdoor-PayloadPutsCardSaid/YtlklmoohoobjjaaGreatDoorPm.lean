/- The contracts of payload.action, actOf, itemOf. Condition: texts of at most 1048576 bytes. -/
import Derived.Test.YtlklmoohoobjjaaGreatDoorPl
namespace Go.Proofs.YtlklmoohoobjjaaGreatDoor
open Go.RowKit Go.Lib Go.Shelf Tg

def sRos : ByteArray := ⟨#[104, 116, 116, 112, 58, 47, 47, 106, 97, 98, 98, 101, 114, 46, 111, 114, 103, 47, 112, 114, 111, 116, 111, 99, 111, 108, 47, 114, 111, 115, 116, 101, 114, 120]⟩
def actB (k : Int) : ByteArray := if k = 1 then ⟨#[97, 100, 100]⟩ else if k = 2 then ⟨#[100, 101, 108, 101, 116, 101]⟩ else if k = 3 then ⟨#[109, 111, 100, 105, 102, 121]⟩ else ⟨#[]⟩
theorem actB_size (k : Int) : (actB k).size ≤ 10 := by
  unfold actB
  split
  · decide
  · split
    · decide
    · split <;> decide
def itemA (k : Int) (j nm : ByteArray) : List At := newA [⟨#[97, 99, 116, 105, 111, 110]⟩, actB k, ⟨#[106, 105, 100]⟩, j, ⟨#[110, 97, 109, 101]⟩, nm]
/-- The item of an entry. -/
def itemE (k : Int) (j nm g : ByteArray) : El := .mk sRos ⟨#[105, 116, 101, 109]⟩ (itemA k j nm) ⟨#[]⟩ (if g = ⟨#[]⟩ then [] else [lf ⟨#[103, 114, 111, 117, 112]⟩ g].map (reS sRos))
set_option maxRecDepth 100000 in
theorem action_any (k : Int) (w : World) : Calls Tryz.prog 61 #[.int .i64 k] w fun r w' => r = .returned (.string (actB k)) ∧ w' = w := by
  unfold actB
  by_cases k1 : k = 1
  · subst k1
    go_enter Tryz.func61, Tryz.ntmps61
    go_wp2_with fail
    go_ret
    exact ⟨rfl, rfl⟩
  · rw [if_neg k1]
    have e1 : ((k : Int) == 1) = false := by rw [beq_eq_false_iff_ne]; exact k1
    by_cases k2 : k = 2
    · subst k2
      go_enter Tryz.func61, Tryz.ntmps61
      go_wp2_with fail
      go_ret
      exact ⟨rfl, rfl⟩
    · rw [if_neg k2]
      have e2 : ((k : Int) == 2) = false := by rw [beq_eq_false_iff_ne]; exact k2
      by_cases k3 : k = 3
      · subst k3
        go_enter Tryz.func61, Tryz.ntmps61
        go_wp2_with fail
        go_ret
        exact ⟨rfl, rfl⟩
      · rw [if_neg k3]
        have e3 : ((k : Int) == 3) = false := by rw [beq_eq_false_iff_ne]; exact k3
        clear k1 k2 k3
        go_enter Tryz.func61, Tryz.ntmps61
        go_wp2_with fail
        go_ret
        exact ⟨rfl, rfl⟩
set_option maxRecDepth 100000 in
theorem actOf_yes (k : Int) (w : World) (h1 : 1 ≤ k) (h3 : k ≤ 3) : Calls Tryz.prog 60 #[.string (actB k)] w fun r w' => r = .returned (.tuple #[.int .i64 k, .bool true]) ∧ w' = w := by
  have hc : k = 1 ∨ k = 2 ∨ k = 3 := by omega
  rcases hc with rfl | rfl | rfl
  · show Calls _ _ #[.string ⟨#[97, 100, 100]⟩] _ _
    go_enter Tryz.func60, Tryz.ntmps60
    go_wp2_with fail
    go_ret2
    exact ⟨rfl, rfl⟩
  · show Calls _ _ #[.string ⟨#[100, 101, 108, 101, 116, 101]⟩] _ _
    go_enter Tryz.func60, Tryz.ntmps60
    go_wp2_with fail
    go_ret2
    exact ⟨rfl, rfl⟩
  · show Calls _ _ #[.string ⟨#[109, 111, 100, 105, 102, 121]⟩] _ _
    go_enter Tryz.func60, Tryz.ntmps60
    go_wp2_with fail
    go_ret2
    exact ⟨rfl, rfl⟩
/-- A row of named attributes lies in no block that holds an empty element. -/
theorem slA_not {S : Nat → Prop} {w : World} {v : Value} {l : List At} {T : Nat} {t : TypeId} (h : SlA S w v l) (hT : w.heap[T]? = some (.cells #[.string ⟨#[]⟩, .string ⟨#[]⟩, .slice none 0 0, .string ⟨#[]⟩, .slice none 0 0] t (0, 0))) (hne : ∀ a ∈ l, a.1 ≠ ⟨#[]⟩) : SlA (fun b => S b ∧ b ≠ T) w v l := by
  obtain ⟨a, c, h1, h2, h3, h4⟩ := h
  refine ⟨a, c, h1, h2, h3, fun i hi => ?_⟩
  obtain ⟨b, o, q1, q2, q3, q4⟩ := h4 i hi
  refine ⟨b, o, q1, ⟨q2, ?_⟩, q3, q4⟩
  rintro rfl
  rw [Lib.cell_of_heap hT] at q3
  have hn := hne _ (List.getElem_mem hi)
  match o + i * 2, q3 with
  | 0, q3 => simp at q3; exact hn q3.symm
  | 1, q3 => simp at q3; exact hn q3.symm
  | 2, q3 => simp at q3
  | 3, q3 => simp at q3; exact hn q3.symm
  | 4, q3 => simp at q3
  | j + 5, q3 => simp at q3
theorem itemA_ne (k : Int) (j nm : ByteArray) : ∀ a ∈ itemA k j nm, a.1 ≠ ⟨#[]⟩ := by
  intro a ha
  have h : a.1 = ⟨#[97, 99, 116, 105, 111, 110]⟩ ∨ a.1 = ⟨#[106, 105, 100]⟩ ∨ a.1 = ⟨#[110, 97, 109, 101]⟩ := by
    unfold itemA at ha
    simp only [newA] at ha
    split at ha <;> split at ha <;> split at ha <;> simp at ha <;> (try rcases ha with rfl | ha) <;> (try rcases ha with rfl | ha) <;> (try subst ha) <;> simp
  rcases h with h | h | h <;> rw [h] <;> decide
theorem sz6 {x0 x1 x2 x3 x4 x5 : ByteArray} (h0 : x0.size ≤ 1048576) (h1 : x1.size ≤ 1048576) (h2 : x2.size ≤ 1048576) (h3 : x3.size ≤ 1048576) (h4 : x4.size ≤ 1048576) (h5 : x5.size ≤ 1048576) : ∀ s ∈ [x0, x1, x2, x3, x4, x5], s.size ≤ 1048576 := fun s hs => by
  rcases List.mem_cons.1 hs with rfl | hs
  · exact h0
  · rcases List.mem_cons.1 hs with rfl | hs
    · exact h1
    · exact sz4 h2 h3 h4 h5 s hs
theorem str_mem6 {S : Nat} {W : World} {x0 x1 x2 x3 x4 x5 : ByteArray} {fz : Nat × Nat} (h : W.heap[S]? = some (.cells #[.string x0, .string x1, .string x2, .string x3, .string x4, .string x5] 9 fz)) : ∀ i (hi : i < [x0, x1, x2, x3, x4, x5].length), ∃ S', some (⟨S, 0, none⟩ : Addr) = some ⟨S', 0, none⟩ ∧ W.cell? ⟨S', i, none⟩ = some (.string [x0, x1, x2, x3, x4, x5][i]) := fun i hi => ⟨S, rfl, by
  have hi2 : i < 6 := hi
  rw [Lib.cell_of_heap h]
  have hc : i = 0 ∨ i = 1 ∨ i = 2 ∨ i = 3 ∨ i = 4 ∨ i = 5 := by omega
  rcases hc with rfl | rfl | rfl | rfl | rfl | rfl <;> rfl⟩
theorem bx6 {w : World} {b : Nat} {v0 v1 v2 v3 v4 v5 : Value} {t : TypeId} {fz : Nat × Nat} (h : w.heap[b]? = some (.cells #[v0, v1, v2, v3, v4, v5] t fz)) :
    w.cell? ⟨b, 0, none⟩ = some v0 ∧ w.cell? ⟨b, 1, none⟩ = some v1 ∧ w.cell? ⟨b, 2, none⟩ = some v2 ∧ w.cell? ⟨b, 3, none⟩ = some v3 ∧ w.cell? ⟨b, 4, none⟩ = some v4 ∧ w.cell? ⟨b, 5, none⟩ = some v5 := by
  refine ⟨?_, ?_, ?_, ?_, ?_, ?_⟩ <;> (rw [Lib.cell_of_heap h]; rfl)
set_option maxRecDepth 100000 in
set_option maxHeartbeats 8000000 in
theorem itemOf_any (k : Int) (n d r nm g : ByteArray) (w : World) (h1 : n.size ≤ 1048576) (h2 : d.size ≤ 1048576) (h3 : r.size ≤ 1048576) (hp : (Jn.putB n d r).size ≤ 1048576) (h4 : nm.size ≤ 1048576) (h5 : g.size ≤ 1048576) :
    Calls Tryz.prog 47 #[.agg #[.int .i64 k, .string n, .string d, .string r, .string nm, .string g]] w (ElP (itemE k (Jn.putB n d r) nm g) w) := by
  have HB0 : Hid (Below w.heap.size w ((w.alloc (.cells #[.int .i64 k, .string n, .string d, .string r, .string nm, .string g] 48)).alloc (.cells #[.string ⟨#[]⟩, .string ⟨#[]⟩, .slice none 0 0, .string ⟨#[]⟩, .slice none 0 0] 30))) := ((Below.refl _ w).alloc (Nat.le_refl _) _).alloc (by simp) _
  have HN0 : Hid (((w.alloc (.cells #[.int .i64 k, .string n, .string d, .string r, .string nm, .string g] 48)).alloc (.cells #[.string ⟨#[]⟩, .string ⟨#[]⟩, .slice none 0 0, .string ⟨#[]⟩, .slice none 0 0] 30)).heap[w.heap.size]? = some (.cells #[.int .i64 k, .string n, .string d, .string r, .string nm, .string g] 48 (0, 0))) := (Below.heap_alloc _ _ _ (by simp)).trans (box_new w _ _)
  have HR0 : Hid (((w.alloc (.cells #[.int .i64 k, .string n, .string d, .string r, .string nm, .string g] 48)).alloc (.cells #[.string ⟨#[]⟩, .string ⟨#[]⟩, .slice none 0 0, .string ⟨#[]⟩, .slice none 0 0] 30)).heap[w.heap.size + 1]? = some (.cells #[.string ⟨#[]⟩, .string ⟨#[]⟩, .slice none 0 0, .string ⟨#[]⟩, .slice none 0 0] 30 (0, 0))) := by
    have := box_new (w.alloc (.cells #[.int .i64 k, .string n, .string d, .string r, .string nm, .string g] 48)) #[.string ⟨#[]⟩, .string ⟨#[]⟩, .slice none 0 0, .string ⟨#[]⟩, .slice none 0 0] 30
    show _ = _
    simpa using this
  go_enter Tryz.func47, Tryz.ntmps47
  go_upto_region 1 with fail
  generalize (w.alloc (.cells #[.int .i64 k, .string n, .string d, .string r, .string nm, .string g] 48)).alloc (.cells #[.string ⟨#[]⟩, .string ⟨#[]⟩, .slice none 0 0, .string ⟨#[]⟩, .slice none 0 0] 30) = W0 at HB0 HN0 HR0 ⊢
  refine region_psi 11 (fun j => [4, 5, 6, 7, 8, 9, 10, 11, 12, 13, 3].getD j 0) (psL [Pr.eq (.pointer (some ⟨w.heap.size, 0, none⟩)), Pr.eq (.int .i64 k), Pr.eq (.string (actB k)), Pr.eq (.pointer (some ⟨w.heap.size, 1, none⟩)), Pr.eq (.agg #[.string n, .string d, .string r]), Pr.eq (.string (Jn.putB n d r)), Pr.eq (.pointer (some ⟨w.heap.size, 4, none⟩)), Pr.eq (.string nm), Pr.blk (w.heap.size + 1 + 1) 6 #[.string ⟨#[97, 99, 116, 105, 111, 110]⟩, .string (actB k), .string ⟨#[106, 105, 100]⟩, .string (Jn.putB n d r), .string ⟨#[110, 97, 109, 101]⟩, .string nm] 9, Pr.nw (w.heap.size + 1 + 1) ⟨#[104, 116, 116, 112, 58, 47, 47, 106, 97, 98, 98, 101, 114, 46, 111, 114, 103, 47, 112, 114, 111, 116, 111, 99, 111, 108, 47, 114, 111, 115, 116, 101, 114, 120]⟩ ⟨#[105, 116, 101, 109]⟩ (itemA k (Jn.putB n d r) nm), Pr.bx (w.heap.size + 1 + 1) #[.string ⟨#[]⟩, .string ⟨#[]⟩, .slice none 0 0, .string ⟨#[]⟩, .slice none 0 0] 30]) (by kernel_rfl) (by kernel_rfl) (by kernel_rfl) (by kernel_rfl) (by decide) (by kernel_rfl) (by kernel_rfl) (psL_mono _) ?_ ?_
  · intro i o hi ho q W hsz hout hbel hdep
    have hNW := (hbel.block _ (heap_lt HN0.out)).trans HN0.out
    obtain ⟨x0, x1, x2, x3, x4, x5⟩ := bx6 hNW
    have hc : i = 0 ∨ i = 1 ∨ i = 2 ∨ i = 3 ∨ i = 4 ∨ i = 5 ∨ i = 6 ∨ i = 7 ∨ i = 8 ∨ i = 9 ∨ i = 10 := by omega
    rcases hc with rfl | rfl | rfl | rfl | rfl | rfl | rfl | rfl | rfl | rfl | rfl
    · -- 0
      cases ho
      have e1 : q.eval (.tmp 1) = .pointer (some ⟨w.heap.size, 0, none⟩) := (hout 1 (by decide)).trans rfl
      refine gives_read (v := .pointer (some ⟨w.heap.size, 0, none⟩)) ?_ rfl
      unfold execOp
      dsimp only
      rw [e1]
      go_simp
    · -- 1
      cases ho
      have e4 : q.eval (.tmp 4) = .pointer (some ⟨w.heap.size, 0, none⟩) := hdep ⟨0, .data⟩ (by simp) rfl (by decide)
      refine gives_read (v := .int .i64 k) ?_ rfl
      unfold execOp
      dsimp only
      rw [e4]
      go_simp
    · -- 2
      cases ho
      have e5 : q.eval (.tmp 5) = .int .i64 k := hdep ⟨1, .data⟩ (by simp) rfl (by decide)
      refine gives_call (f := 61) (args := #[.int .i64 k]) ?_ ((action_any k W).mono ?_)
      · unfold execOp
        dsimp only
        simp only [resolve, List.map_toArray, List.map_cons, List.map_nil, e5]
        go_simp
      · rintro e W' ⟨rfl, rfl⟩
        exact ⟨_, rfl, Below.refl _ _, rfl⟩
    · -- 3
      cases ho
      have e1 : q.eval (.tmp 1) = .pointer (some ⟨w.heap.size, 0, none⟩) := (hout 1 (by decide)).trans rfl
      refine gives_read (v := .pointer (some ⟨w.heap.size, 1, none⟩)) ?_ rfl
      unfold execOp
      dsimp only
      rw [e1]
      go_simp
    · -- 4
      cases ho
      have e7 : q.eval (.tmp 7) = .pointer (some ⟨w.heap.size, 1, none⟩) := hdep ⟨3, .data⟩ (by simp) rfl (by decide)
      refine gives_read (v := .agg #[.string n, .string d, .string r]) ?_ rfl
      unfold execOp
      dsimp only
      rw [e7]
      go_simp
    · -- 5
      cases ho
      have e8 : q.eval (.tmp 8) = .agg #[.string n, .string d, .string r] := hdep ⟨4, .data⟩ (by simp) rfl (by decide)
      refine gives_call (f := 35) (args := #[.agg #[.string n, .string d, .string r]]) ?_ ((Jn.put_any n d r W h1 h2 h3).mono ?_)
      · unfold execOp
        dsimp only
        simp only [resolve, List.map_toArray, List.map_cons, List.map_nil, e8]
        go_simp
      · rintro e W' ⟨rfl, hb⟩
        exact ⟨_, rfl, hb, rfl⟩
    · -- 6
      cases ho
      have e1 : q.eval (.tmp 1) = .pointer (some ⟨w.heap.size, 0, none⟩) := (hout 1 (by decide)).trans rfl
      refine gives_read (v := .pointer (some ⟨w.heap.size, 4, none⟩)) ?_ rfl
      unfold execOp
      dsimp only
      rw [e1]
      go_simp
    · -- 7
      cases ho
      have e10 : q.eval (.tmp 10) = .pointer (some ⟨w.heap.size, 4, none⟩) := hdep ⟨6, .data⟩ (by simp) rfl (by decide)
      refine gives_read (v := .string nm) ?_ rfl
      unfold execOp
      dsimp only
      rw [e10]
      go_simp
    · -- 8
      cases ho
      have e6 : q.eval (.tmp 6) = .string (actB k) := hdep ⟨2, .data⟩ (by simp) rfl (by decide)
      have e9 : q.eval (.tmp 9) = .string (Jn.putB n d r) := hdep ⟨5, .data⟩ (by simp) rfl (by decide)
      have e11 : q.eval (.tmp 11) = .string nm := hdep ⟨7, .data⟩ (by simp) rfl (by decide)
      refine gives_run (W' := W.alloc (.cells #[.string ⟨#[97, 99, 116, 105, 111, 110]⟩, .string (actB k), .string ⟨#[106, 105, 100]⟩, .string (Jn.putB n d r), .string ⟨#[110, 97, 109, 101]⟩, .string nm] 9)) (v := .slice (some ⟨W.heap.size, 0, none⟩) 6 6) ?_ ((Below.refl _ W).alloc (Nat.le_refl _) _) (blk_new (by have := hbel.size; have := heap_lt HR0.out; omega))
      unfold execOp
      dsimp only
      simp only [List.map_toArray, List.map_cons, List.map_nil, e6, e9, e11]
      go_simp
    · -- 9
      cases ho
      obtain ⟨S, e12, hSN, hS⟩ : ∃ S, q.eval (.tmp 12) = .slice (some ⟨S, 0, none⟩) 6 6 ∧ w.heap.size + 1 + 1 ≤ S ∧ W.heap[S]? = some (.cells #[.string ⟨#[97, 99, 116, 105, 111, 110]⟩, .string (actB k), .string ⟨#[106, 105, 100]⟩, .string (Jn.putB n d r), .string ⟨#[110, 97, 109, 101]⟩, .string nm] 9 (0, 0)) := hdep ⟨8, .data⟩ (by simp) rfl (by decide)
      clear hSN
      refine gives_call (f := 31) (args := #[.string ⟨#[104, 116, 116, 112, 58, 47, 47, 106, 97, 98, 98, 101, 114, 46, 111, 114, 103, 47, 112, 114, 111, 116, 111, 99, 111, 108, 47, 114, 111, 115, 116, 101, 114, 120]⟩, .string ⟨#[105, 116, 101, 109]⟩, .slice (some ⟨S, 0, none⟩) 6 6]) ?_ ((new_any ⟨#[104, 116, 116, 112, 58, 47, 47, 106, 97, 98, 98, 101, 114, 46, 111, 114, 103, 47, 112, 114, 111, 116, 111, 99, 111, 108, 47, 114, 111, 115, 116, 101, 114, 120]⟩ ⟨#[105, 116, 101, 109]⟩ [⟨#[97, 99, 116, 105, 111, 110]⟩, actB k, ⟨#[106, 105, 100]⟩, (Jn.putB n d r), ⟨#[110, 97, 109, 101]⟩, nm] (some ⟨S, 0, none⟩) 6 W (by decide) (by decide) (by simp) (sz6 (by decide) (by have := actB_size k; omega) (by decide) hp (by decide) h4) (str_mem6 hS)).mono ?_)
      · unfold execOp
        dsimp only
        simp only [resolve, List.map_toArray, List.map_cons, List.map_nil, e12]
        go_simp
      · rintro e W' ⟨a7, c7, rfl, hin, hb⟩
        exact ⟨_, rfl, hb, a7, c7, rfl, hin.weak fun _ _ h => by have := hbel.size; have := heap_lt HR0.out; omega⟩
    · -- 10
      cases ho
      refine gives_run (W' := W.alloc (.cells #[.string ⟨#[]⟩, .string ⟨#[]⟩, .slice none 0 0, .string ⟨#[]⟩, .slice none 0 0] 30)) (v := .pointer (some ⟨W.heap.size, 0, none⟩)) ?_ ((Below.refl _ W).alloc (Nat.le_refl _) _) (bx_new (by have := hbel.size; have := heap_lt HR0.out; omega))
      unfold execOp
      dsimp only
      go_simp
  · intro q W hq hbel hv
    obtain ⟨aA, cA, e13, hin⟩ : ∃ aA cA, q.eval (.tmp 13) = .agg #[.string ⟨#[104, 116, 116, 112, 58, 47, 47, 106, 97, 98, 98, 101, 114, 46, 111, 114, 103, 47, 112, 114, 111, 116, 111, 99, 111, 108, 47, 114, 111, 115, 116, 101, 114, 120]⟩, .string ⟨#[105, 116, 101, 109]⟩, .slice aA (itemA k (Jn.putB n d r) nm).length cA, .string ⟨#[]⟩, .slice none 0 0] ∧ InS (fun b => w.heap.size + 1 + 1 ≤ b) W (.mk ⟨#[104, 116, 116, 112, 58, 47, 47, 106, 97, 98, 98, 101, 114, 46, 111, 114, 103, 47, 112, 114, 111, 116, 111, 99, 111, 108, 47, 114, 111, 115, 116, 101, 114, 120]⟩ ⟨#[105, 116, 101, 109]⟩ (itemA k (Jn.putB n d r) nm) ⟨#[]⟩ []) (q.eval (.tmp 13)) := hv 9 (by decide)
    rw [e13] at hin
    obtain ⟨T, e3, hT, hTB⟩ : ∃ T, q.eval (.tmp 3) = .pointer (some ⟨T, 0, none⟩) ∧ w.heap.size + 1 + 1 ≤ T ∧ W.heap[T]? = some (.cells #[.string ⟨#[]⟩, .string ⟨#[]⟩, .slice none 0 0, .string ⟨#[]⟩, .slice none 0 0] 30 (0, 0)) := hv 10 (by decide)
    have HBW := Lib.hid (HB0.out.trans (hbel.mono HB0.out.size))
    have HRW := Lib.hid ((hbel.block _ (heap_lt HR0.out)).trans HR0.out)
    have HNW := Lib.hid ((hbel.block _ (heap_lt HN0.out)).trans HN0.out)
    have hq2 : q = canonL q [4, 5, 6, 7, 8, 9, 10, 11, 12, 13, 3] _ := hq
    simp only [canonL] at hq2
    rw [e13, e3] at hq2
    clear hq hv e13 e3
    generalize q.eval (.tmp 4) = u4 at hq2
    generalize q.eval (.tmp 5) = u5 at hq2
    generalize q.eval (.tmp 6) = u6 at hq2
    generalize q.eval (.tmp 7) = u7 at hq2
    generalize q.eval (.tmp 8) = u8 at hq2
    generalize q.eval (.tmp 9) = u9 at hq2
    generalize q.eval (.tmp 10) = u10 at hq2
    generalize q.eval (.tmp 11) = u11 at hq2
    generalize q.eval (.tmp 12) = u12 at hq2
    subst hq2
    have HO0 : Hid (Oe (w.heap.size + 1 + 1) (fun b => w.heap.size + 1 < b ∧ b ≠ T) W ⟨#[104, 116, 116, 112, 58, 47, 47, 106, 97, 98, 98, 101, 114, 46, 111, 114, 103, 47, 112, 114, 111, 116, 111, 99, 111, 108, 47, 114, 111, 115, 116, 101, 114, 120]⟩ ⟨#[105, 116, 101, 109]⟩ (itemA k (Jn.putB n d r) nm) [] aA cA none 0) := by
      have q := Oe.new hin (w.heap.size + 1 + 1)
      refine ⟨q.sz, ?_, KRow.nil _ _ _⟩
      exact (slA_not q.at_ hTB (itemA_ne k _ nm)).weak fun _ _ h => ⟨⟨h.1.1, h.2⟩, h.1.2⟩
    have HIT : Hid (itemE k (Jn.putB n d r) nm g = .mk ⟨#[104, 116, 116, 112, 58, 47, 47, 106, 97, 98, 98, 101, 114, 46, 111, 114, 103, 47, 112, 114, 111, 116, 111, 99, 111, 108, 47, 114, 111, 115, 116, 101, 114, 120]⟩ ⟨#[105, 116, 101, 109]⟩ (itemA k (Jn.putB n d r) nm) ⟨#[]⟩ (if g = ⟨#[]⟩ then [] else [lf ⟨#[103, 114, 111, 117, 112]⟩ g].map (reS ⟨#[104, 116, 116, 112, 58, 47, 47, 106, 97, 98, 98, 101, 114, 46, 111, 114, 103, 47, 112, 114, 111, 116, 111, 99, 111, 108, 47, 114, 111, 115, 116, 101, 114, 120]⟩))) := rfl
    generalize (itemA k (Jn.putB n d r) nm) = na at HO0 HIT ⊢
    obtain ⟨z0, z1, z2, z3, z4⟩ := bx5 hTB
    have f0 := Lib.frozen_of_heap hTB 0
    have f1 := Lib.frozen_of_heap hTB 1
    have f2 := Lib.frozen_of_heap hTB 2
    have f3 := Lib.frozen_of_heap hTB 3
    have f4 := Lib.frozen_of_heap hTB 4
    obtain ⟨W2, hW2, s1, s2, s3, _⟩ := st5 hTB (.string ⟨#[104, 116, 116, 112, 58, 47, 47, 106, 97, 98, 98, 101, 114, 46, 111, 114, 103, 47, 112, 114, 111, 116, 111, 99, 111, 108, 47, 114, 111, 115, 116, 101, 114, 120]⟩) (.string ⟨#[105, 116, 101, 109]⟩) (.slice aA na.length cA) (.string ⟨#[]⟩) (.slice none 0 0) rfl
    have HO2 : Hid (Oe (w.heap.size + 1 + 1) (fun b => w.heap.size + 1 < b ∧ b ≠ T) W2 ⟨#[104, 116, 116, 112, 58, 47, 47, 106, 97, 98, 98, 101, 114, 46, 111, 114, 103, 47, 112, 114, 111, 116, 111, 99, 111, 108, 47, 114, 111, 115, 116, 101, 114, 120]⟩ ⟨#[105, 116, 101, 109]⟩ na [] aA cA none 0) := HO0.out.keep fun b hb => s2 b (hb.elim (fun h => h.2) (fun e => by cases e))
    have HB2 := Lib.hid (s3 _ _ HBW.out (by omega))
    have HR2 := Lib.hid ((s2 _ (by omega)).trans HRW.out)
    have HN2 := Lib.hid ((s2 _ (by omega)).trans HNW.out)
    have HT2 := Lib.hid s1
    clear hin HBW HRW HNW HO0 HB0 HR0 HN0 hbel s1 s2 s3
    go_upto_region 2 with fail
    rw [← hW2]
    clear hW2 z0 z1 z2 z3 z4 f0 f1 f2 f3 f4 hTB
    obtain ⟨y0, y1, y2, y3, y4, y5⟩ := bx6 HN2.out
    obtain ⟨z0, z1, z2, z3, z4⟩ := bx5 HT2.out
    by_cases hg0 : g = ⟨#[]⟩
    · rw [if_pos hg0] at HIT
      subst hg0
      obtain ⟨q0, q1, q2, q3, q4⟩ := bx5 HR2.out
      have p0 := Lib.frozen_of_heap HR2.out 0
      have p1 := Lib.frozen_of_heap HR2.out 1
      have p2 := Lib.frozen_of_heap HR2.out 2
      have p3 := Lib.frozen_of_heap HR2.out 3
      have p4 := Lib.frozen_of_heap HR2.out 4
      have HFI := Lib.hid (fun u0 u1 u2 u3 u4 => HO2.out.fin HB2.out HR2.out (Nat.le_succ _) (fun b h => h.1) (u0 := u0) (u1 := u1) (u2 := u2) (u3 := u3) (u4 := u4))
      clear HO2 HB2 HN2
      go_wp2_with fail
      refine bodyPost_ret (v := .agg #[.string ⟨#[104, 116, 116, 112, 58, 47, 47, 106, 97, 98, 98, 101, 114, 46, 111, 114, 103, 47, 112, 114, 111, 116, 111, 99, 111, 108, 47, 114, 111, 115, 116, 101, 114, 120]⟩, .string ⟨#[105, 116, 101, 109]⟩, .slice aA na.length cA, .string ⟨#[]⟩, .slice none 0 0]) (by simp [results, Tryz.results47, go_sem, q0, q1, q2, q3, q4]) rfl ?_
      have hf := HFI.out (.string ⟨#[104, 116, 116, 112, 58, 47, 47, 106, 97, 98, 98, 101, 114, 46, 111, 114, 103, 47, 112, 114, 111, 116, 111, 99, 111, 108, 47, 114, 111, 115, 116, 101, 114, 120]⟩) (.string ⟨#[105, 116, 101, 109]⟩) (.slice aA na.length cA) (.string ⟨#[]⟩) (.slice none 0 0)
      rw [HIT.out]
      exact ⟨_, rfl, hf.1, hf.2⟩
    · rw [if_neg hg0] at HIT
      have hne : g.data.toList ≠ [] := fun e => hg0 (ByteArray.ext (Array.toList_inj.1 e))
      obtain ⟨n1, n2, n3⟩ := nil_ne hne
      have n4 : (g.toList == ([] : List UInt8)) = false := by rw [beq_eq_false_iff_ne]; exact n2
      clear hg0 hne
      go_upto_region 4 with fail
      clear y0 y1 y2 y3 y4 y5 z0 z1 z2 z3 z4
      refine region_psi 5 (fun j => [18, 19, 20, 21, 22].getD j 0) (psL [Pr.eq (.agg #[.string ⟨#[104, 116, 116, 112, 58, 47, 47, 106, 97, 98, 98, 101, 114, 46, 111, 114, 103, 47, 112, 114, 111, 116, 111, 99, 111, 108, 47, 114, 111, 115, 116, 101, 114, 120]⟩, .string ⟨#[105, 116, 101, 109]⟩, .slice aA na.length cA, .string ⟨#[]⟩, .slice none 0 0]), Pr.eq (.pointer (some ⟨w.heap.size, 5, none⟩)), Pr.eq (.string g), Pr.eq (.agg #[.string ⟨#[]⟩, .string ⟨#[103, 114, 111, 117, 112]⟩, .slice none 0 0, .string g, .slice none 0 0]), Pr.blk (W2.heap.size) 1 #[.string ⟨#[]⟩, .string ⟨#[103, 114, 111, 117, 112]⟩, .slice none 0 0, .string g, .slice none 0 0] 30]) (by kernel_rfl) (by kernel_rfl) (by kernel_rfl) (by kernel_rfl) (by decide) (by kernel_rfl) (by kernel_rfl) (psL_mono _) ?_ ?_
      · intro i o hi ho q W hsz hout hbel hdep
        have hNW := (hbel.block _ (heap_lt HN2.out)).trans HN2.out
        obtain ⟨x0, x1, x2, x3, x4, x5⟩ := bx6 hNW
        have hTW := (hbel.block _ (heap_lt HT2.out)).trans HT2.out
        obtain ⟨z0, z1, z2, z3, z4⟩ := bx5 hTW
        have hc : i = 0 ∨ i = 1 ∨ i = 2 ∨ i = 3 ∨ i = 4 := by omega
        rcases hc with rfl | rfl | rfl | rfl | rfl
        · -- 0
          cases ho
          have e3 : q.eval (.tmp 3) = .pointer (some ⟨T, 0, none⟩) := (hout 3 (by decide)).trans rfl
          refine gives_read (v := .agg #[.string ⟨#[104, 116, 116, 112, 58, 47, 47, 106, 97, 98, 98, 101, 114, 46, 111, 114, 103, 47, 112, 114, 111, 116, 111, 99, 111, 108, 47, 114, 111, 115, 116, 101, 114, 120]⟩, .string ⟨#[105, 116, 101, 109]⟩, .slice aA na.length cA, .string ⟨#[]⟩, .slice none 0 0]) ?_ rfl
          unfold execOp
          dsimp only
          rw [e3]
          go_simp
        · -- 1
          cases ho
          have e1 : q.eval (.tmp 1) = .pointer (some ⟨w.heap.size, 0, none⟩) := (hout 1 (by decide)).trans rfl
          refine gives_read (v := .pointer (some ⟨w.heap.size, 5, none⟩)) ?_ rfl
          unfold execOp
          dsimp only
          rw [e1]
          go_simp
        · -- 2
          cases ho
          have e19 : q.eval (.tmp 19) = .pointer (some ⟨w.heap.size, 5, none⟩) := hdep ⟨1, .data⟩ (by simp) rfl (by decide)
          refine gives_read (v := .string g) ?_ rfl
          unfold execOp
          dsimp only
          rw [e19]
          go_simp
        · -- 3
          cases ho
          have e20 : q.eval (.tmp 20) = .string g := hdep ⟨2, .data⟩ (by simp) rfl (by decide)
          refine gives_call (f := 34) (args := #[.string ⟨#[103, 114, 111, 117, 112]⟩, .string g]) ?_ ((leaf_any ⟨#[103, 114, 111, 117, 112]⟩ g W h5).mono ?_)
          · unfold execOp
            dsimp only
            simp only [resolve, List.map_toArray, List.map_cons, List.map_nil, e20]
            go_simp
          · rintro e W' ⟨rfl, hb⟩
            exact ⟨_, rfl, hb, rfl⟩
        · -- 4
          cases ho
          have e21 : q.eval (.tmp 21) = .agg #[.string ⟨#[]⟩, .string ⟨#[103, 114, 111, 117, 112]⟩, .slice none 0 0, .string g, .slice none 0 0] := hdep ⟨3, .data⟩ (by simp) rfl (by decide)
          refine gives_run (W' := W.alloc (.cells #[.string ⟨#[]⟩, .string ⟨#[103, 114, 111, 117, 112]⟩, .slice none 0 0, .string g, .slice none 0 0] 30)) (v := .slice (some ⟨W.heap.size, 0, none⟩) 1 1) ?_ ((Below.refl _ W).alloc (Nat.le_refl _) _) (blk_new (hbel.size))
          unfold execOp
          dsimp only
          simp only [List.map_toArray, List.map_cons, List.map_nil, e21]
          go_simp
      · intro q W hq hbel hv
        have e18 : q.eval (.tmp 18) = .agg #[.string ⟨#[104, 116, 116, 112, 58, 47, 47, 106, 97, 98, 98, 101, 114, 46, 111, 114, 103, 47, 112, 114, 111, 116, 111, 99, 111, 108, 47, 114, 111, 115, 116, 101, 114, 120]⟩, .string ⟨#[105, 116, 101, 109]⟩, .slice aA na.length cA, .string ⟨#[]⟩, .slice none 0 0] := hv 0 (by decide)
        obtain ⟨B, e22, hB, hBB⟩ : ∃ B, q.eval (.tmp 22) = .slice (some ⟨B, 0, none⟩) 1 1 ∧ W2.heap.size ≤ B ∧ W.heap[B]? = some (.cells #[.string ⟨#[]⟩, .string ⟨#[103, 114, 111, 117, 112]⟩, .slice none 0 0, .string g, .slice none 0 0] 30 (0, 0)) := hv 4 (by decide)
        have HBW := Lib.hid (HB2.out.trans (hbel.mono HB2.out.size))
        have HRW := Lib.hid ((hbel.block _ (heap_lt HR2.out)).trans HR2.out)
        have hwl := heap_lt HR2.out
        have hTl := heap_lt HT2.out
        have CW := Lib.hid (with_any (w.heap.size + 1 + 1) (fun b => w.heap.size + 1 < b ∧ b ≠ T) ⟨#[104, 116, 116, 112, 58, 47, 47, 106, 97, 98, 98, 101, 114, 46, 111, 114, 103, 47, 112, 114, 111, 116, 111, 99, 111, 108, 47, 114, 111, 115, 116, 101, 114, 120]⟩ ⟨#[105, 116, 101, 109]⟩ na [] [lf ⟨#[103, 114, 111, 117, 112]⟩ g] aA none (some ⟨B, 0, none⟩) cA 0 1 W (heap_lt HRW.out) (HO2.out.st hbel) (ks_1 hBB ⟨⟨by omega, by omega⟩, fun e => by cases e⟩ (by decide) h5) (by simp))
        have hq2 : q = canonL q [18, 19, 20, 21, 22] _ := hq
        simp only [canonL] at hq2
        rw [e18, e22] at hq2
        clear hq hv e18 e22
        generalize q.eval (.tmp 19) = u19 at hq2
        generalize q.eval (.tmp 20) = u20 at hq2
        generalize q.eval (.tmp 21) = u21 at hq2
        subst hq2
        clear hB hBB HO2 hbel HB2 HR2 HN2 HT2 hwl hTl
        go_wp2_with fail
        refine CW.out.mono ?_
        rintro r w5 ⟨a2, c2, rfl, ho, hg, _⟩
        have hb9 := HBW.out.grown hg HBW.out.size (fun b e => by cases e)
        have hr9 := (hg.block _ (heap_lt HRW.out) (fun e => by cases e)).trans HRW.out
        clear CW hg HBW HRW
        have HFI := Lib.hid (fun u0 u1 u2 u3 u4 => ho.fin hb9 hr9 (Nat.le_succ _) (fun b h => h.1) (u0 := u0) (u1 := u1) (u2 := u2) (u3 := u3) (u4 := u4))
        obtain ⟨q0, q1, q2, q3, q4⟩ := bx5 hr9
        have p0 := Lib.frozen_of_heap hr9 0
        have p1 := Lib.frozen_of_heap hr9 1
        have p2 := Lib.frozen_of_heap hr9 2
        have p3 := Lib.frozen_of_heap hr9 3
        have p4 := Lib.frozen_of_heap hr9 4
        clear ho hb9 hr9
        generalize hk9 : [] ++ [lf ⟨#[103, 114, 111, 117, 112]⟩ g].map (reS ⟨#[104, 116, 116, 112, 58, 47, 47, 106, 97, 98, 98, 101, 114, 46, 111, 114, 103, 47, 112, 114, 111, 116, 111, 99, 111, 108, 47, 114, 111, 115, 116, 101, 114, 120]⟩) = k9 at HFI ⊢
        go_wp2_with fail
        refine bodyPost_ret (v := .agg #[.string ⟨#[104, 116, 116, 112, 58, 47, 47, 106, 97, 98, 98, 101, 114, 46, 111, 114, 103, 47, 112, 114, 111, 116, 111, 99, 111, 108, 47, 114, 111, 115, 116, 101, 114, 120]⟩, .string ⟨#[105, 116, 101, 109]⟩, .slice aA na.length cA, .string ⟨#[]⟩, .slice a2 k9.length c2]) (by simp [results, Tryz.results47, go_sem, q0, q1, q2, q3, q4]) rfl ?_
        have hf := HFI.out (.string ⟨#[104, 116, 116, 112, 58, 47, 47, 106, 97, 98, 98, 101, 114, 46, 111, 114, 103, 47, 112, 114, 111, 116, 111, 99, 111, 108, 47, 114, 111, 115, 116, 101, 114, 120]⟩) (.string ⟨#[105, 116, 101, 109]⟩) (.slice aA na.length cA) (.string ⟨#[]⟩) (.slice a2 k9.length c2)
        rw [HIT.out]
        rw [show [lf ⟨#[103, 114, 111, 117, 112]⟩ g].map (reS ⟨#[104, 116, 116, 112, 58, 47, 47, 106, 97, 98, 98, 101, 114, 46, 111, 114, 103, 47, 112, 114, 111, 116, 111, 99, 111, 108, 47, 114, 111, 115, 116, 101, 114, 120]⟩) = k9 from hk9]
        exact ⟨_, rfl, hf.1, hf.2⟩
end Go.Proofs.YtlklmoohoobjjaaGreatDoor
