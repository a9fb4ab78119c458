/- The last drawn region of the document's begins, in whatever order it goes: the open elements are copied, one more behind them, and stored. Conditions: those of each theorem's head. -/
import Derived.Test.YtolnpfcncmcacaaGreatDoorCb
import Derived.Test.YtolnpfcncmcacaaGreatDoorIv
namespace Go.Proofs.YtolnpfcncmcacaaGreatDoor
open Go.RowKit Go.Lib Go.Shelf Tg Sn

theorem eval_put_same {a : Act} {d : Nat} {v : Value} (h : d < a.tmps.size) : (a.put (some d) v).eval (.tmp d) = v := by
  show (a.tmps.setIfInBounds d v).getD d undef = v
  simp [Array.getD, h]
theorem eval_put_ne {a : Act} {d k : Nat} {v : Value} (h : d ≠ k) : (a.put (some d) v).eval (.tmp k) = a.eval (.tmp k) := by
  show (a.tmps.setIfInBounds d v).getD k undef = a.tmps.getD k undef
  rw [Array.getD_eq_getD_getElem?, Array.getD_eq_getD_getElem?, Array.getElem?_setIfInBounds, if_neg h]
theorem act_size {a : Act} {d : Nat} {v : Value} : (a.put (some d) v).tmps.size = a.tmps.size := by
  show (a.tmps.setIfInBounds d v).size = _
  simp
theorem flag_same {L : Array Bool} {i : Nat} (h : i < L.size) : (L.setIfInBounds i true).getD i false = true := by simp [Array.getD, h]
theorem flag_ne {L : Array Bool} {i j : Nat} (h : i ≠ j) : (L.setIfInBounds i true).getD j false = L.getD j false := by
  rw [Array.getD_eq_getD_getElem?, Array.getD_eq_getD_getElem?, Array.getElem?_setIfInBounds, if_neg h]
theorem step_value {P : Program} {ops : Array Oper} {o : Oper} {a : Act} {W W' : World} {v : Value} {K : Act → World → Prop} {Q : Exit → Act → World → Prop} (hg : o.guard = none) (hr : (execOp a.eval o).run P W = .ok (.value v) W') (h : K (a.put o.dst v) W') :
    if Region.wanted o (yielded ops a.tmps) = true then Oper.wp P o a W K Q else K (a.put o.dst undef) W := by
  rw [if_pos (by simp [Region.wanted, hg])]
  unfold Oper.wp
  rw [hr]
  exact h
theorem step_skip {P : Program} {ops : Array Oper} {o : Oper} {a : Act} {W W' : World} {K : Act → World → Prop} {Q : Exit → Act → World → Prop} (hg : o.guard = none) (hr : (execOp a.eval o).run P W = .ok .skip W') (h : K (a.put o.dst undef) W') :
    if Region.wanted o (yielded ops a.tmps) = true then Oper.wp P o a W K Q else K (a.put o.dst undef) W := by
  rw [if_pos (by simp [Region.wanted, hg])]
  unfold Oper.wp
  rw [hr]
  exact h
theorem step_append_is {P : Program} {ops : Array Oper} {o : Oper} {a : Act} {K : Act → World → Prop} {Q : Exit → Act → World → Prop} {E : Prop} {w w9 : World} (hgd : o.guard = none) (s x : Operand) (t : TypeId)
    (ho : o.op = .call { callee := .builtin .append, args := #[s, x], argTypes := #[t, t] }) (v y r : Value) (hs : a.eval s = v) (hx : a.eval x = y)
    (hr : ∀ ty, (Builtin.append_ #[t, t] ty #[v, y]).run P w = .ok r w9) (h : K (a.put o.dst r) w9) : if Region.wanted o (yielded ops a.tmps) = true then Oper.wp P o a w K Q else E := by
  have hw : Region.wanted o (yielded ops a.tmps) = true := by simp [Region.wanted, hgd]
  rw [if_pos hw]
  unfold Oper.wp execOp
  simp only [ho, resolve, invoke, builtin, Sem.run_bind, Sem.run_pure, Result.andThen_ok, List.map_toArray, List.map_cons, List.map_nil, hs, hx, hr]
  exact h
def ops63 : Array Oper := #[{ dst := some 286, op := .buildSlice 29 0 #[], type := 29, pos := "ref.go:422", after := #[], guard := none }, { dst := some 287, op := .fieldAddr 31 (.tmp 2) 0, type := 0, pos := "ref.go:422", after := #[], guard := none }, { dst := some 288, op := .load 29 (.tmp 287), type := 29, pos := "ref.go:422", after := #[{ on := 1, ground := .data }], guard := none }, { dst := some 289, op := .call { callee := .builtin .append, args := #[.tmp 286, .tmp 288], argTypes := #[29, 29] }, type := 29, pos := "ref.go:422", after := #[{ on := 0, ground := .data }, { on := 2, ground := .data }], guard := none }, { dst := some 290, op := .move (.tmp 5), type := 9, pos := "ref.go:422", after := #[], guard := none }, { dst := some 291, op := .load 48 (.tmp 26), type := 48, pos := "ref.go:422", after := #[], guard := none }, { dst := some 292, op := .move (.tmp 18), type := 111, pos := "ref.go:422", after := #[], guard := none }, { dst := some 293, op := .build 113 #[(0, .tmp 290), (1, .tmp 291), (2, .tmp 292)], type := 113, pos := "ref.go:422", after := #[{ on := 4, ground := .data }, { on := 5, ground := .data }, { on := 6, ground := .data }], guard := none }, { dst := some 294, op := .buildSlice 29 1 #[(0, .tmp 293)], type := 29, pos := "ref.go:422", after := #[{ on := 7, ground := .data }], guard := none }, { dst := some 295, op := .call { callee := .builtin .append, args := #[.tmp 289, .tmp 294], argTypes := #[29, 29] }, type := 29, pos := "ref.go:422", after := #[{ on := 3, ground := .data }, { on := 8, ground := .data }, { on := 3, ground := .chain }], guard := none }, { dst := some 296, op := .fieldAddr 31 (.tmp 2) 0, type := 0, pos := "ref.go:422", after := #[{ on := 0, ground := .phase }, { on := 1, ground := .phase }, { on := 2, ground := .phase }, { on := 3, ground := .phase }, { on := 4, ground := .phase }, { on := 5, ground := .phase }, { on := 6, ground := .phase }, { on := 7, ground := .phase }, { on := 8, ground := .phase }, { on := 9, ground := .phase }], guard := none }, { dst := none, op := .store 29 (.tmp 296) (.tmp 295), type := 0, pos := "ref.go:422", after := #[{ on := 10, ground := .data }, { on := 9, ground := .data }, { on := 9, ground := .chain }, { on := 0, ground := .phase }, { on := 1, ground := .phase }, { on := 2, ground := .phase }, { on := 3, ground := .phase }, { on := 4, ground := .phase }, { on := 5, ground := .phase }, { on := 6, ground := .phase }, { on := 7, ground := .phase }, { on := 8, ground := .phase }, { on := 9, ground := .phase }], guard := none }]
/-- What the region works with: the act and the world at its beginning, the box, the open elements, the new one. -/
structure C63 where
  a0 : Act
  W0 : World
  Nb : Nat
  o : Option Addr
  n : Nat
  c : Nat
  news : List Value
  q : ByteArray
  gd : Nat
  capD : Nat
  B : Nat
structure P63 where
  N : Nat
  g8 : Nat
  cap8 : Nat
  bl : Nat
  g9 : Nat
  cap9 : Nat
def C63.el (x : C63) : Array Value := #[.string ⟨#[98]⟩, .string x.q, .slice none 0 0, .string ⟨#[]⟩, .slice none 0 0]
def C63.lit (x : C63) : List Value := opV x.q ⟨#[]⟩ (some ⟨x.gd, 0, none⟩) x.capD
def val63 (x : C63) (p : P63) : Nat → Value
  | 0 => .slice (some ⟨p.N, 0, none⟩) 0 0
  | 1 => .pointer (some ⟨x.Nb, 0, none⟩)
  | 2 => .slice x.o x.n x.c
  | 3 => .slice (some ⟨p.g8, 0, none⟩) x.n p.cap8
  | 4 => .string x.q
  | 5 => .agg x.el
  | 6 => .slice (some ⟨x.gd, 0, none⟩) 1 x.capD
  | 7 => .agg x.lit.toArray
  | 8 => .slice (some ⟨p.bl, 0, none⟩) 1 1
  | 9 => .slice (some ⟨p.g9, 0, none⟩) (x.n + 1) p.cap9
  | _ => .pointer (some ⟨x.Nb, 0, none⟩)
structure J63 (x : C63) (p : P63) (L : Array Bool) (a : Act) (W : World) : Prop where
  sz : a.tmps.size = x.a0.tmps.size
  df : a.defers = x.a0.defers
  out : ∀ k : Nat, (k < 286 ∨ 296 < k) → a.eval (.tmp k) = x.a0.eval (.tmp k)
  bel : Below x.W0.heap.size x.W0 W
  vals : ∀ j, j ≤ 10 → L.getD j false = true → a.eval (.tmp (286 + j)) = val63 x p j
  w0 : L.getD 0 false = true → x.W0.heap.size ≤ p.N ∧ p.N < W.heap.size ∧ (L.getD 3 false = false → W.ownsRow x.B 113 7 (.slice (some ⟨p.N, 0, none⟩) 0 0) 0 [])
  w3 : L.getD 3 false = true → x.W0.heap.size ≤ p.g8 ∧ p.g8 < W.heap.size ∧ (L.getD 9 false = false → W.ownsRow x.B 113 7 (.slice (some ⟨p.g8, 0, none⟩) x.n p.cap8) x.n x.news)
  w8 : L.getD 8 false = true → x.W0.heap.size ≤ p.bl ∧ W.heap[p.bl]? = some (.cells x.lit.toArray 113 (0, 0))
  w9 : L.getD 9 false = true → x.W0.heap.size ≤ p.g9 ∧ W.ownsRow x.B 113 7 (.slice (some ⟨p.g9, 0, none⟩) (x.n + 1) p.cap9) (x.n + 1) (x.news ++ x.lit)
  ne0 : L.getD 0 false = true → L.getD 8 false = true → p.N ≠ p.bl
  ne3 : L.getD 3 false = true → L.getD 8 false = true → p.g8 ≠ p.bl
  d93 : L.getD 9 false = true → L.getD 3 false = true
theorem val_N {x : C63} {p : P63} {n j : Nat} (h : ¬ 0 = j) : val63 x p j = val63 x { p with N := n } j := by
  unfold val63; split <;> first | rfl | exact absurd rfl h
theorem val_g8 {x : C63} {p : P63} {n m j : Nat} (h : ¬ 3 = j) : val63 x p j = val63 x { p with g8 := n, cap8 := m } j := by
  unfold val63; split <;> first | rfl | exact absurd rfl h
theorem val_bl {x : C63} {p : P63} {n j : Nat} (h : ¬ 8 = j) : val63 x p j = val63 x { p with bl := n } j := by
  unfold val63; split <;> first | rfl | exact absurd rfl h
theorem val_g9 {x : C63} {p : P63} {n m j : Nat} (h : ¬ 9 = j) : val63 x p j = val63 x { p with g9 := n, cap9 := m } j := by
  unfold val63; split <;> first | rfl | exact absurd rfl h
/-- A slot is filled, the world is as it was. -/
theorem J63.fill {x : C63} {p : P63} {L : Array Bool} {a : Act} {W : World} (h : J63 x p L a W) {i : Nat} (hi : i ≤ 10) (hne : i ≠ 0 ∧ i ≠ 3 ∧ i ≠ 8 ∧ i ≠ 9) (hs : 296 < a.tmps.size) : J63 x p (L.setIfInBounds i true) (a.put (some (286 + i)) (val63 x p i)) W := by
  obtain ⟨n0, n3, n8, n9⟩ := hne
  refine ⟨by rw [act_size]; exact h.sz, h.df, fun k hk => ?_, h.bel, fun j hj hl => ?_, ?_, ?_, ?_, ?_, ?_, ?_, ?_⟩
  · rw [eval_put_ne (show 286 + i ≠ k by omega)]; exact h.out k hk
  · by_cases e : i = j
    · subst e; exact eval_put_same (by omega)
    · rw [eval_put_ne (show 286 + i ≠ 286 + j by omega)]
      rw [flag_ne e] at hl
      exact h.vals j hj hl
  · rw [flag_ne n0, flag_ne n3]; exact h.w0
  · rw [flag_ne n3, flag_ne n9]; exact h.w3
  · rw [flag_ne n8]; exact h.w8
  · rw [flag_ne n9]; exact h.w9
  · rw [flag_ne n0, flag_ne n8]; exact h.ne0
  · rw [flag_ne n3, flag_ne n8]; exact h.ne3
  · rw [flag_ne n3, flag_ne n9]; exact h.d93
def acyc (ops : Array Oper) : Bool := (List.range ops.size).all fun i => match ops[i]? with | some o => o.after.all (fun e => decide (e.on < i)) | none => true
theorem acyc_of {ops : Array Oper} (h : acyc ops = true) : ∀ (i : Nat) (o : Oper), ops[i]? = some o → ∀ e ∈ o.after, e.on < i := by
  intro i o ho e he
  have hi : i < ops.size := (Array.getElem?_eq_some_iff.1 ho).1
  have h1 := List.all_eq_true.1 h i (List.mem_range.2 hi)
  rw [ho] at h1
  have h2 := (Array.all_eq_true_iff_forall_mem.1 h1) e he
  exact of_decide_eq_true h2
set_option maxRecDepth 100000 in
set_option maxHeartbeats 4000000 in
theorem region63 (x : C63) (w : World) (hw : x.W0 = w.drew) {Q : Exit → Act → World → Prop} (E : Nat) (s1 s2 s3 s4 : Value) (h296 : 296 < x.a0.tmps.size) (h2 : x.a0.eval (.tmp 2) = .pointer (some ⟨x.Nb, 0, none⟩)) (h5 : x.a0.eval (.tmp 5) = .string x.q)
    (h18 : x.a0.eval (.tmp 18) = .slice (some ⟨x.gd, 0, none⟩) 1 x.capD) (h26 : x.a0.eval (.tmp 26) = .pointer (some ⟨E, 0, none⟩)) (hE : x.W0.heap[E]? = some (.cells #[.string ⟨#[98]⟩, .string x.q, .slice none 0 0, .string ⟨#[]⟩, .slice none 0 0] 48 (0, 0)))
    (hbx : x.W0.heap[x.Nb]? = some (.cells #[.slice x.o x.n x.c, s1, s2, s3, s4] 31 (0, 0))) (hB : x.B ≤ x.W0.heap.size) (hn : x.news.length = x.n * 7) (hn40 : x.n ≤ 40)
    (hA1 : ∀ (N : Nat) (W : World), Below x.W0.heap.size x.W0 W → x.W0.heap.size ≤ N → N < W.heap.size → W.ownsRow x.B 113 7 (.slice (some ⟨N, 0, none⟩) 0 0) 0 [] → ∃ (g8 cap8 : Nat) (W8 : World), (∀ ty, (Builtin.append_ #[29, 29] ty #[.slice (some ⟨N, 0, none⟩) 0 0, .slice x.o x.n x.c]).run Tryz.prog W = .ok (.slice (some ⟨g8, 0, none⟩) x.n cap8) W8) ∧
      W8.ownsRow x.B 113 7 (.slice (some ⟨g8, 0, none⟩) x.n cap8) x.n x.news ∧ W.grownBy W8 (some N) ∧ (g8 = N ∨ g8 = W.heap.size) ∧ g8 < W8.heap.size)
    (hQ : ∀ (a : Act) (p : P63) (W : World), a.tmps.size = x.a0.tmps.size → a.defers = x.a0.defers → (∀ k : Nat, (k < 286 ∨ 296 < k) → a.eval (.tmp k) = x.a0.eval (.tmp k)) → Below x.W0.heap.size x.W0 W → x.W0.heap.size ≤ p.g9 → W.ownsRow x.B 113 7 (.slice (some ⟨p.g9, 0, none⟩) (x.n + 1) p.cap9) (x.n + 1) (x.news ++ x.lit) →
      Q .normal a (W.setCell ⟨x.Nb, 0, none⟩ (.slice (some ⟨p.g9, 0, none⟩) (x.n + 1) p.cap9))) : (Code.region 63 ops63 true).wp Tryz.prog Q x.a0 w := by
  obtain ⟨i0, hi0, hz0, hz1, hz2⟩ := info_parts infoOp
  refine region_inv (by kernel_rfl) (fun L a W => (∃ p, J63 x p L a W ∧ L.getD 11 true = false) ∨ ((∀ i, i < 12 → L.getD i true = true) ∧ ∃ (p : P63) (W' : World), a.tmps.size = x.a0.tmps.size ∧ a.defers = x.a0.defers ∧ (∀ k : Nat, (k < 286 ∨ 296 < k) → a.eval (.tmp k) = x.a0.eval (.tmp k)) ∧ Below x.W0.heap.size x.W0 W' ∧ x.W0.heap.size ≤ p.g9 ∧
    W'.ownsRow x.B 113 7 (.slice (some ⟨p.g9, 0, none⟩) (x.n + 1) p.cap9) (x.n + 1) (x.news ++ x.lit) ∧ W = W'.setCell ⟨x.Nb, 0, none⟩ (.slice (some ⟨p.g9, 0, none⟩) (x.n + 1) p.cap9))) (acyc_of (by kernel_rfl)) ?_ ?_ ?_
  · left
    refine ⟨⟨0, 0, 0, 0, 0, 0⟩, ?_, by rfl⟩
    have hf : ∀ j, (Array.replicate ops63.size false).getD j false = false := fun j => by simp [Array.getD]
    refine ⟨rfl, rfl, fun _ _ => rfl, by rw [hw]; exact Below.refl _ _, fun j _ hl => ?_, fun hl => ?_, fun hl => ?_, fun hl => ?_, fun hl => ?_, fun hl => ?_, fun hl => ?_, fun hl => ?_⟩ <;> (rw [hf] at hl; cases hl)
  · intro L a W i o hI hsz ho hl hd K' hK
    have hs12 : L.size = 12 := hsz
    have hi : i < 12 := (Array.getElem?_eq_some_iff.1 ho).1
    rcases hI with ⟨p, hJ, h11⟩ | ⟨hall, _⟩
    case inr => rw [hall i hi] at hl; cases hl
    have hc : i = 0 ∨ i = 1 ∨ i = 2 ∨ i = 3 ∨ i = 4 ∨ i = 5 ∨ i = 6 ∨ i = 7 ∨ i = 8 ∨ i = 9 ∨ i = 10 ∨ i = 11 := by omega
    rcases hc with rfl | rfl | rfl | rfl | rfl | rfl | rfl | rfl | rfl | rfl | rfl | rfl
    · -- 0
      obtain rfl : o = { dst := some 286, op := .buildSlice 29 0 #[], type := 29, pos := "ref.go:422", after := #[], guard := none } := Option.some.inj (ho.symm.trans rfl)
      have hsa : 296 < a.tmps.size := by rw [hJ.sz]; exact h296
      have hf : L.getD 0 false = false := by rw [← hl]; simp [Array.getD, hs12]
      refine step_value (W' := W.alloc (.cells #[] 113)) (v := .slice (some ⟨W.heap.size, 0, none⟩) 0 0) rfl ?_ (hK _ _ ?_)
      · unfold execOp
        dsimp only
        go_simp
      have hal : Below W.heap.size W (W.alloc (.cells #[] 113)) := (Below.refl _ W).alloc (Nat.le_refl _) _
      refine .inl ⟨{ p with N := W.heap.size }, ⟨by rw [act_size]; exact hJ.sz, hJ.df, fun k hk => by rw [eval_put_ne (show 286 ≠ k by omega)]; exact hJ.out k hk, hJ.bel.trans (hal.mono hJ.bel.size), fun j hj hlj => ?_, ?_, ?_, ?_, ?_, ?_, ?_, ?_⟩, by rw [getD_set_ne L (by decide)]; exact h11⟩
      · by_cases e : 0 = j
        · subst e; exact eval_put_same (by omega)
        · rw [eval_put_ne (show 286 ≠ 286 + j by omega)]
          rw [flag_ne e] at hlj
          rw [hJ.vals j hj hlj]
          exact val_N e
      · intro _
        refine ⟨hJ.bel.size, by simp, fun _ => World.ownsRow_lit W #[] 0 (Nat.le_trans hB hJ.bel.size) (by decide) (by decide)⟩
      · rw [flag_ne (by decide), flag_ne (by decide)]
        intro h3
        obtain ⟨q1, q2, q3⟩ := hJ.w3 h3
        exact ⟨q1, by simp; omega, fun h9 => (q3 h9).alloc _⟩
      · rw [flag_ne (by decide)]
        intro h8
        obtain ⟨q1, q2⟩ := hJ.w8 h8
        exact ⟨q1, (Below.heap_alloc _ _ _ (heap_lt q2)).trans q2⟩
      · rw [flag_ne (by decide)]
        intro h9
        obtain ⟨q1, q2⟩ := hJ.w9 h9
        exact ⟨q1, q2.alloc _⟩
      · rw [flag_ne (i := 0) (j := 8) (by decide)]
        intro _ h8
        have := heap_lt (hJ.w8 h8).2
        show W.heap.size ≠ p.bl
        omega
      · rw [flag_ne (by decide), flag_ne (by decide)]
        exact hJ.ne3
      · rw [flag_ne (by decide), flag_ne (by decide)]
        exact hJ.d93
    · -- 1
      obtain rfl : o = { dst := some 287, op := .fieldAddr 31 (.tmp 2) 0, type := 0, pos := "ref.go:422", after := #[], guard := none } := Option.some.inj (ho.symm.trans rfl)
      have h := hJ.fill (i := 1) (by decide) (by decide) (by rw [hJ.sz]; exact h296)
      refine step_value rfl ?_ (hK _ _ (.inl ⟨p, h, by rw [getD_set_ne L (by decide)]; exact h11⟩))
      have e2 : a.eval (.tmp 2) = .pointer (some ⟨x.Nb, 0, none⟩) := (hJ.out 2 (by omega)).trans h2
      unfold execOp
      dsimp only
      rw [e2]
      go_simp
      rfl
    · -- 2
      obtain rfl : o = { dst := some 288, op := .load 29 (.tmp 287), type := 29, pos := "ref.go:422", after := #[{ on := 1, ground := .data }], guard := none } := Option.some.inj (ho.symm.trans rfl)
      have h := hJ.fill (i := 2) (by decide) (by decide) (by rw [hJ.sz]; exact h296)
      refine step_value rfl ?_ (hK _ _ (.inl ⟨p, h, by rw [getD_set_ne L (by decide)]; exact h11⟩))
      have hbW : W.heap[x.Nb]? = some (.cells #[.slice x.o x.n x.c, s1, s2, s3, s4] 31 (0, 0)) := (hJ.bel.block _ (heap_lt hbx)).trans hbx
      have e2 : a.eval (.tmp 287) = .pointer (some ⟨x.Nb, 0, none⟩) := hJ.vals 1 (by decide) (hd ⟨1, .data⟩ (by simp) rfl)
      have c0 : W.cell? ⟨x.Nb, 0, none⟩ = some (.slice x.o x.n x.c) := by rw [Lib.cell_of_heap hbW]; rfl
      unfold execOp
      dsimp only
      rw [e2]
      go_simp
      rfl
    · -- 3
      obtain rfl : o = { dst := some 289, op := .call { callee := .builtin .append, args := #[.tmp 286, .tmp 288], argTypes := #[29, 29] }, type := 29, pos := "ref.go:422", after := #[{ on := 0, ground := .data }, { on := 2, ground := .data }], guard := none } := Option.some.inj (ho.symm.trans rfl)
      have hsa : 296 < a.tmps.size := by rw [hJ.sz]; exact h296
      have hf : L.getD 3 false = false := by rw [← hl]; simp [Array.getD, hs12]
      have l0 := hd ⟨0, .data⟩ (by simp) rfl
      have v0 : a.eval (.tmp 286) = .slice (some ⟨p.N, 0, none⟩) 0 0 := hJ.vals 0 (by decide) l0
      have v2 : a.eval (.tmp 288) = .slice x.o x.n x.c := hJ.vals 2 (by decide) (hd ⟨2, .data⟩ (by simp) rfl)
      obtain ⟨q1, q2, q3⟩ := hJ.w0 l0
      obtain ⟨g8, cap8, W8, hrun, hown, hgrow, hat, hlt⟩ := hA1 p.N W hJ.bel q1 q2 (q3 hf)
      refine step_append_is rfl (.tmp 286) (.tmp 288) 29 rfl _ _ _ v0 v2 hrun (hK _ _ ?_)
      have hM := hJ.bel.size
      refine .inl ⟨{ p with g8 := g8, cap8 := cap8 }, ⟨by rw [act_size]; exact hJ.sz, hJ.df, fun k hk => by rw [eval_put_ne (show 289 ≠ k by omega)]; exact hJ.out k hk, hJ.bel.grown hgrow hJ.bel.size (fun b e => by cases e; exact q1), fun j hj hlj => ?_, ?_, ?_, ?_, ?_, ?_, ?_, ?_⟩, by rw [getD_set_ne L (by decide)]; exact h11⟩
      · by_cases e : 3 = j
        · subst e; exact eval_put_same (by omega)
        · rw [eval_put_ne (show 289 ≠ 286 + j by omega)]
          rw [flag_ne e] at hlj
          rw [hJ.vals j hj hlj]
          exact val_g8 e
      · rw [flag_ne (i := 3) (j := 0) (by decide), flag_same (by omega)]
        intro _
        exact ⟨q1, Nat.lt_of_lt_of_le q2 hgrow.size, fun h => by cases h⟩
      · intro _
        exact ⟨by show x.W0.heap.size ≤ g8; rcases hat with h | h <;> omega, hlt, fun _ => hown⟩
      · rw [flag_ne (by decide)]
        intro h8
        obtain ⟨r1, r2⟩ := hJ.w8 h8
        exact ⟨r1, (hgrow.block _ (heap_lt r2) (fun e => hJ.ne0 l0 h8 (Option.some.inj e).symm)).trans r2⟩
      · rw [flag_ne (by decide)]
        intro h9
        have := hJ.d93 h9
        rw [hf] at this; cases this
      · rw [flag_ne (by decide), flag_ne (by decide)]
        exact hJ.ne0
      · rw [flag_ne (i := 3) (j := 8) (by decide)]
        intro _ h8
        rcases hat with h | h
        · rw [show ({ p with g8 := g8, cap8 := cap8 } : P63).g8 = p.N from h]; exact hJ.ne0 l0 h8
        · have := heap_lt (hJ.w8 h8).2
          show g8 ≠ p.bl
          omega
      · intro _
        exact flag_same (by omega)
    · -- 4
      obtain rfl : o = { dst := some 290, op := .move (.tmp 5), type := 9, pos := "ref.go:422", after := #[], guard := none } := Option.some.inj (ho.symm.trans rfl)
      have h := hJ.fill (i := 4) (by decide) (by decide) (by rw [hJ.sz]; exact h296)
      refine step_value rfl ?_ (hK _ _ (.inl ⟨p, h, by rw [getD_set_ne L (by decide)]; exact h11⟩))
      have e5 : a.eval (.tmp 5) = .string x.q := (hJ.out 5 (by omega)).trans h5
      show Result.ok (Next.value (a.eval (.tmp 5))) W = _
      rw [e5]; rfl
    · -- 5
      obtain rfl : o = { dst := some 291, op := .load 48 (.tmp 26), type := 48, pos := "ref.go:422", after := #[], guard := none } := Option.some.inj (ho.symm.trans rfl)
      have h := hJ.fill (i := 5) (by decide) (by decide) (by rw [hJ.sz]; exact h296)
      refine step_value rfl ?_ (hK _ _ (.inl ⟨p, h, by rw [getD_set_ne L (by decide)]; exact h11⟩))
      have hEW : W.heap[E]? = _ := (hJ.bel.block _ (heap_lt hE)).trans hE
      have e2 : a.eval (.tmp 26) = .pointer (some ⟨E, 0, none⟩) := (hJ.out 26 (by omega)).trans h26
      obtain ⟨c0, c1, c2, c3, c4⟩ := bx5 hEW
      unfold execOp
      dsimp only
      rw [e2]
      go_simp
      rfl
    · -- 6
      obtain rfl : o = { dst := some 292, op := .move (.tmp 18), type := 111, pos := "ref.go:422", after := #[], guard := none } := Option.some.inj (ho.symm.trans rfl)
      have h := hJ.fill (i := 6) (by decide) (by decide) (by rw [hJ.sz]; exact h296)
      refine step_value rfl ?_ (hK _ _ (.inl ⟨p, h, by rw [getD_set_ne L (by decide)]; exact h11⟩))
      have e5 := (hJ.out 18 (by omega)).trans h18
      show Result.ok (Next.value (a.eval (.tmp 18))) W = _
      rw [e5]; rfl
    · -- 7
      obtain rfl : o = { dst := some 293, op := .build 113 #[(0, .tmp 290), (1, .tmp 291), (2, .tmp 292)], type := 113, pos := "ref.go:422", after := #[{ on := 4, ground := .data }, { on := 5, ground := .data }, { on := 6, ground := .data }], guard := none } := Option.some.inj (ho.symm.trans rfl)
      have h := hJ.fill (i := 7) (by decide) (by decide) (by rw [hJ.sz]; exact h296)
      refine step_value rfl ?_ (hK _ _ (.inl ⟨p, h, by rw [getD_set_ne L (by decide)]; exact h11⟩))
      have v4 : a.eval (.tmp 290) = .string x.q := hJ.vals 4 (by decide) (hd ⟨4, .data⟩ (by simp) rfl)
      have v5 : a.eval (.tmp 291) = .agg x.el := hJ.vals 5 (by decide) (hd ⟨5, .data⟩ (by simp) rfl)
      have v6 : a.eval (.tmp 292) = .slice (some ⟨x.gd, 0, none⟩) 1 x.capD := hJ.vals 6 (by decide) (hd ⟨6, .data⟩ (by simp) rfl)
      unfold execOp
      dsimp only
      simp only [List.map_toArray, List.map_cons, List.map_nil, v4, v5, v6, C63.el]
      go_simp
      rfl
    · -- 8
      obtain rfl : o = { dst := some 294, op := .buildSlice 29 1 #[(0, .tmp 293)], type := 29, pos := "ref.go:422", after := #[{ on := 7, ground := .data }], guard := none } := Option.some.inj (ho.symm.trans rfl)
      have hsa : 296 < a.tmps.size := by rw [hJ.sz]; exact h296
      have hf : L.getD 8 false = false := by rw [← hl]; simp [Array.getD, hs12]
      have v7 : a.eval (.tmp 293) = .agg #[.string x.q, .string ⟨#[98]⟩, .string x.q, .slice none 0 0, .string ⟨#[]⟩, .slice none 0 0, .slice (some ⟨x.gd, 0, none⟩) 1 x.capD] := hJ.vals 7 (by decide) (hd ⟨7, .data⟩ (by simp) rfl)
      refine step_value (W' := W.alloc (.cells x.lit.toArray 113)) (v := .slice (some ⟨W.heap.size, 0, none⟩) 1 1) rfl ?_ (hK _ _ ?_)
      · unfold execOp
        dsimp only
        simp only [List.map_toArray, List.map_cons, List.map_nil, v7]
        go_simp
        rfl
      have hal : Below W.heap.size W (W.alloc (.cells x.lit.toArray 113)) := (Below.refl _ W).alloc (Nat.le_refl _) _
      refine .inl ⟨{ p with bl := W.heap.size }, ⟨by rw [act_size]; exact hJ.sz, hJ.df, fun k hk => by rw [eval_put_ne (show 294 ≠ k by omega)]; exact hJ.out k hk, hJ.bel.trans (hal.mono hJ.bel.size), fun j hj hlj => ?_, ?_, ?_, ?_, ?_, ?_, ?_, ?_⟩, by rw [getD_set_ne L (by decide)]; exact h11⟩
      · by_cases e : 8 = j
        · subst e; exact eval_put_same (by omega)
        · rw [eval_put_ne (show 294 ≠ 286 + j by omega)]
          rw [flag_ne e] at hlj
          rw [hJ.vals j hj hlj]
          exact val_bl e
      · rw [flag_ne (by decide), flag_ne (by decide)]
        intro h0
        obtain ⟨q1, q2, q3⟩ := hJ.w0 h0
        exact ⟨q1, by simp; omega, fun h3 => (q3 h3).alloc _⟩
      · rw [flag_ne (by decide), flag_ne (by decide)]
        intro h3
        obtain ⟨q1, q2, q3⟩ := hJ.w3 h3
        exact ⟨q1, by simp; omega, fun h9 => (q3 h9).alloc _⟩
      · intro _
        exact ⟨hJ.bel.size, heap_alloc_new W _⟩
      · rw [flag_ne (by decide)]
        intro h9
        obtain ⟨q1, q2⟩ := hJ.w9 h9
        exact ⟨q1, q2.alloc _⟩
      · rw [flag_ne (i := 8) (j := 0) (by decide)]
        intro h0 _
        have := (hJ.w0 h0).2.1
        show p.N ≠ W.heap.size
        omega
      · rw [flag_ne (i := 8) (j := 3) (by decide)]
        intro h3 _
        have := (hJ.w3 h3).2.1
        show p.g8 ≠ W.heap.size
        omega
      · rw [flag_ne (by decide), flag_ne (by decide)]
        exact hJ.d93
    · -- 9
      obtain rfl : o = { dst := some 295, op := .call { callee := .builtin .append, args := #[.tmp 289, .tmp 294], argTypes := #[29, 29] }, type := 29, pos := "ref.go:422", after := #[{ on := 3, ground := .data }, { on := 8, ground := .data }, { on := 3, ground := .chain }], guard := none } := Option.some.inj (ho.symm.trans rfl)
      have hsa : 296 < a.tmps.size := by rw [hJ.sz]; exact h296
      have hf : L.getD 9 false = false := by rw [← hl]; simp [Array.getD, hs12]
      have l3 := hd ⟨3, .data⟩ (by simp) rfl
      have l8 := hd ⟨8, .data⟩ (by simp) rfl
      have v3 : a.eval (.tmp 289) = .slice (some ⟨p.g8, 0, none⟩) x.n p.cap8 := hJ.vals 3 (by decide) l3
      have v8 : a.eval (.tmp 294) = .slice (some ⟨p.bl, 0, none⟩) 1 1 := hJ.vals 8 (by decide) l8
      obtain ⟨q1, q2, q3⟩ := hJ.w3 l3
      obtain ⟨r1, r2⟩ := hJ.w8 l8
      have hM := hJ.bel.size
      refine step_append_lies W rfl (.tmp 289) (.tmp 294) 29 rfl x.B 113 i0 _ 7 136 Tryz.underlying29 hi0 hz0 hz1 hz2 rfl (by decide) _ x.n x.news v3 (q3 hf) ⟨p.bl, 0, none⟩ 1 1 x.lit v8 rfl (World.news_of_block r2) (opV_one _ _ _ _) (by decide) (by unfold maxLen; omega) (by omega) (Nat.le_trans hB hM) _ rfl ?_
      intro g9 cap9 W9 hown hgrow hat hlt
      have hgrow : W.grownBy W9 (some p.g8) := hgrow
      have hat : p.g8 = g9 ∨ g9 = W.heap.size := hat.imp (fun h => Option.some.inj h) id
      refine hK _ _ ?_
      refine .inl ⟨{ p with g9 := g9, cap9 := cap9 }, ⟨by rw [act_size]; exact hJ.sz, hJ.df, fun k hk => by rw [eval_put_ne (show 295 ≠ k by omega)]; exact hJ.out k hk, hJ.bel.grown hgrow hJ.bel.size (fun b e => by cases e; exact q1), fun j hj hlj => ?_, ?_, ?_, ?_, ?_, ?_, ?_, ?_⟩, by rw [getD_set_ne L (by decide)]; exact h11⟩
      · by_cases e : 9 = j
        · subst e; exact eval_put_same (by omega)
        · rw [eval_put_ne (show 295 ≠ 286 + j by omega)]
          rw [flag_ne e] at hlj
          rw [hJ.vals j hj hlj]
          exact val_g9 e
      · rw [flag_ne (i := 9) (j := 0) (by decide), flag_ne (i := 9) (j := 3) (by decide)]
        intro h0
        obtain ⟨s1, s2, _⟩ := hJ.w0 h0
        exact ⟨s1, Nat.lt_of_lt_of_le s2 hgrow.size, fun h => by rw [l3] at h; cases h⟩
      · rw [flag_ne (i := 9) (j := 3) (by decide), flag_same (by omega)]
        intro _
        exact ⟨q1, Nat.lt_of_lt_of_le q2 hgrow.size, fun h => by cases h⟩
      · rw [flag_ne (by decide)]
        intro h8
        exact ⟨r1, (hgrow.block _ (heap_lt r2) (fun e => hJ.ne3 l3 l8 (Option.some.inj e).symm)).trans r2⟩
      · intro _
        exact ⟨by show x.W0.heap.size ≤ g9; rcases hat with h | h <;> omega, hown⟩
      · rw [flag_ne (by decide), flag_ne (by decide)]
        exact hJ.ne0
      · rw [flag_ne (by decide), flag_ne (by decide)]
        exact hJ.ne3
      · rw [flag_ne (i := 9) (j := 3) (by decide)]
        intro _
        exact l3
    · -- 10
      obtain rfl : o = { dst := some 296, op := .fieldAddr 31 (.tmp 2) 0, type := 0, pos := "ref.go:422", after := #[{ on := 0, ground := .phase }, { on := 1, ground := .phase }, { on := 2, ground := .phase }, { on := 3, ground := .phase }, { on := 4, ground := .phase }, { on := 5, ground := .phase }, { on := 6, ground := .phase }, { on := 7, ground := .phase }, { on := 8, ground := .phase }, { on := 9, ground := .phase }], guard := none } := Option.some.inj (ho.symm.trans rfl)
      have h := hJ.fill (i := 10) (by decide) (by decide) (by rw [hJ.sz]; exact h296)
      refine step_value rfl ?_ (hK _ _ (.inl ⟨p, h, by rw [getD_set_ne L (by decide)]; exact h11⟩))
      have e2 : a.eval (.tmp 2) = .pointer (some ⟨x.Nb, 0, none⟩) := (hJ.out 2 (by omega)).trans h2
      unfold execOp
      dsimp only
      rw [e2]
      go_simp
      rfl
    · -- 11
      obtain rfl : o = { dst := none, op := .store 29 (.tmp 296) (.tmp 295), type := 0, pos := "ref.go:422", after := #[{ on := 10, ground := .data }, { on := 9, ground := .data }, { on := 9, ground := .chain }, { on := 0, ground := .phase }, { on := 1, ground := .phase }, { on := 2, ground := .phase }, { on := 3, ground := .phase }, { on := 4, ground := .phase }, { on := 5, ground := .phase }, { on := 6, ground := .phase }, { on := 7, ground := .phase }, { on := 8, ground := .phase }, { on := 9, ground := .phase }], guard := none } := Option.some.inj (ho.symm.trans rfl)
      have hsa : 296 < a.tmps.size := by rw [hJ.sz]; exact h296
      have hf : L.getD 11 false = false := by rw [← hl]; simp [Array.getD, hs12]
      have l9 := hd ⟨9, .data⟩ (by simp) rfl
      have l10 := hd ⟨10, .data⟩ (by simp) rfl
      have hall : ∀ k, k < 12 → (L.setIfInBounds 11 true).getD k true = true := by
        intro k hk
        have hk2 : k = 0 ∨ k = 1 ∨ k = 2 ∨ k = 3 ∨ k = 4 ∨ k = 5 ∨ k = 6 ∨ k = 7 ∨ k = 8 ∨ k = 9 ∨ k = 10 ∨ k = 11 := by omega
        have tr : ∀ k, k < 12 → L.getD k false = true → L.getD k true = true := fun k hk h => by
          have hk3 : k < L.size := by omega
          simp only [Array.getD, hk3, dif_pos] at h ⊢
          exact h
        by_cases e : 11 = k
        · subst e; simp [Array.getD, hs12]
        · rw [getD_set_ne L e]
          refine tr k hk ?_
          rcases hk2 with rfl | rfl | rfl | rfl | rfl | rfl | rfl | rfl | rfl | rfl | rfl | rfl
          · exact hd ⟨0, .phase⟩ (by simp) rfl
          · exact hd ⟨1, .phase⟩ (by simp) rfl
          · exact hd ⟨2, .phase⟩ (by simp) rfl
          · exact hd ⟨3, .phase⟩ (by simp) rfl
          · exact hd ⟨4, .phase⟩ (by simp) rfl
          · exact hd ⟨5, .phase⟩ (by simp) rfl
          · exact hd ⟨6, .phase⟩ (by simp) rfl
          · exact hd ⟨7, .phase⟩ (by simp) rfl
          · exact hd ⟨8, .phase⟩ (by simp) rfl
          · exact l9
          · exact l10
          · exact absurd rfl e
      have v9 : a.eval (.tmp 295) = .slice (some ⟨p.g9, 0, none⟩) (x.n + 1) p.cap9 := hJ.vals 9 (by decide) l9
      have v10 : a.eval (.tmp 296) = .pointer (some ⟨x.Nb, 0, none⟩) := hJ.vals 10 (by decide) l10
      have hbW : W.heap[x.Nb]? = some (.cells #[.slice x.o x.n x.c, s1, s2, s3, s4] 31 (0, 0)) := (hJ.bel.block _ (heap_lt hbx)).trans hbx
      have c0 : W.cell? ⟨x.Nb, 0, none⟩ = some (.slice x.o x.n x.c) := by rw [Lib.cell_of_heap hbW]; rfl
      have f0 := Lib.frozen_of_heap hbW 0
      refine step_skip (W' := W.setCell ⟨x.Nb, 0, none⟩ (.slice (some ⟨p.g9, 0, none⟩) (x.n + 1) p.cap9)) rfl ?_ (hK _ _ ?_)
      · unfold execOp
        dsimp only
        rw [v9, v10]
        go_simp
      exact .inr ⟨hall, p, W, hJ.sz, hJ.df, hJ.out, hJ.bel, (hJ.w9 l9).1, (hJ.w9 l9).2, rfl⟩
  · intro L a W hI hall
    rcases hI with ⟨p, hJ, h11⟩ | ⟨_, p, W', z1, z2, z3, z4, z5, z6, rfl⟩
    · rw [hall 11 (by decide)] at h11; cases h11
    · exact hQ a p W' z1 z2 z3 z4 z5 z6

/-! ### The act behind a region, with its slots in the text's order -/
def canonL (a : Act) : List Nat → Act → Act
  | [], b => b
  | k :: ks, b => canonL a ks (b.put (some k) (a.eval (.tmp k)))
theorem canon_size (a : Act) : ∀ (ks : List Nat) (b : Act), (canonL a ks b).tmps.size = b.tmps.size
  | [], _ => rfl
  | k :: ks, b => by
    show (canonL a ks (b.put (some k) (a.eval (.tmp k)))).tmps.size = _
    rw [canon_size a ks, act_size]
theorem canon_defers (a : Act) : ∀ (ks : List Nat) (b : Act), (canonL a ks b).defers = b.defers
  | [], _ => rfl
  | _ :: ks, _ => (canon_defers a ks _).trans rfl
theorem canon_eval (a : Act) : ∀ (ks : List Nat) (b : Act), a.tmps.size = b.tmps.size → ∀ j : Nat, j < b.tmps.size → (j ∉ ks → a.eval (.tmp j) = b.eval (.tmp j)) → (canonL a ks b).eval (.tmp j) = a.eval (.tmp j)
  | [], b, _, j, _, h => (h (by simp)).symm
  | k :: ks, b, hs, j, hj, h => by
    show (canonL a ks (b.put (some k) (a.eval (.tmp k)))).eval (.tmp j) = _
    refine canon_eval a ks _ (by rw [act_size]; exact hs) j (by rw [act_size]; exact hj) fun hn => ?_
    by_cases e : k = j
    · subst e; rw [eval_put_same hj]
    · rw [eval_put_ne e]
      exact h (fun hm => by rcases List.mem_cons.1 hm with r | r; exact e r.symm; exact hn r)
theorem canon_eq {a b : Act} {ks : List Nat} (hs : a.tmps.size = b.tmps.size) (hd : a.defers = b.defers) (h : ∀ j : Nat, j ∉ ks → a.eval (.tmp j) = b.eval (.tmp j)) : a = canonL a ks b := by
  have h1 := canon_size a ks b
  have h2 := canon_defers a ks b
  have h3 := fun j hj => canon_eval a ks b hs j hj (h j)
  generalize canonL a ks b = c at h1 h2 h3
  obtain ⟨ta, da⟩ := a
  obtain ⟨tc, dc⟩ := c
  have e1 : da = dc := hd.trans h2.symm
  subst e1
  congr 1
  have hsz : ta.size = tc.size := hs.trans h1.symm
  refine Array.ext hsz fun j hj1 hj2 => ?_
  have h4 := h3 j (by rw [← hs]; exact hj1)
  have h5 : tc.getD j undef = ta.getD j undef := h4
  simp only [Array.getD, hj1, hj2, dif_pos] at h5
  exact h5.symm
/-- Open elements, appended to none. -/
theorem append_open (B N g n c : Nat) (W : World) (news : List Value) (hB : B ≤ W.heap.size) (h0 : 0 < n) (hn : n ≤ 40) (hN : W.ownsRow B 113 7 (.slice (some ⟨N, 0, none⟩) 0 0) 0 []) (hO : W.ownsRow B 113 7 (.slice (some ⟨g, 0, none⟩) n c) n news) (h1 : ∀ u ∈ news, u.oneCell' = true) :
    ∃ (g8 cap8 : Nat) (W8 : World), (∀ ty, (Builtin.append_ #[29, 29] ty #[.slice (some ⟨N, 0, none⟩) 0 0, .slice (some ⟨g, 0, none⟩) n c]).run Tryz.prog W = .ok (.slice (some ⟨g8, 0, none⟩) n cap8) W8) ∧
      W8.ownsRow B 113 7 (.slice (some ⟨g8, 0, none⟩) n cap8) n news ∧ W.grownBy W8 (some N) ∧ (g8 = N ∨ g8 = W.heap.size) ∧ g8 < W8.heap.size := by
  obtain ⟨i0, hi0, hz0, hz1, hz2⟩ := info_parts infoOp
  obtain ⟨g8, cap8, W8, hr, hown, hgrow, hat, hlt⟩ := run_append_lies (P := Tryz.prog) W 29 29 B 113 i0 _ 7 136 Tryz.underlying29 hi0 hz0 hz1 hz2 rfl (by decide) (.slice (some ⟨N, 0, none⟩) 0 0) 0 [] hN ⟨g, 0, none⟩ n c news hO.1 (news_own hO) h1 h0 (by unfold maxLen; omega) (by omega) hB _ rfl
  rw [Nat.zero_add] at hr hown
  exact ⟨g8, cap8, W8, fun ty => hr, hown, hgrow, hat.imp (fun h => (Option.some.inj h).symm) id, hlt⟩
/-- No open element, appended to none. -/
theorem append_none (B N : Nat) (W : World) (hlt : N < W.heap.size) (hN : W.ownsRow B 113 7 (.slice (some ⟨N, 0, none⟩) 0 0) 0 []) :
    ∃ (g8 cap8 : Nat) (W8 : World), (∀ ty, (Builtin.append_ #[29, 29] ty #[.slice (some ⟨N, 0, none⟩) 0 0, .slice none 0 0]).run Tryz.prog W = .ok (.slice (some ⟨g8, 0, none⟩) 0 cap8) W8) ∧
      W8.ownsRow B 113 7 (.slice (some ⟨g8, 0, none⟩) 0 cap8) 0 [] ∧ W.grownBy W8 (some N) ∧ (g8 = N ∨ g8 = W.heap.size) ∧ g8 < W8.heap.size := by
  obtain ⟨i0, hi0, _⟩ := info_parts infoOp
  exact ⟨N, 0, W, fun ty => run_append_owned_none (P := Tryz.prog) W B 29 ty 113 i0 7 Tryz.underlying29 hi0 _ 0 [] hN, hN, gb_below (Below.refl _ _), .inl rfl, hlt⟩
end Go.Proofs.YtolnpfcncmcacaaGreatDoor
