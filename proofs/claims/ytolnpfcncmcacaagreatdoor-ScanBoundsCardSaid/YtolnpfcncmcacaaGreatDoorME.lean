/- Layer 6 in one text: a scanner in memory; cut, spaceOf, choose. Conditions: those of each theorem's head. -/
import Derived.Test.YtolnpfcncmcacaaGreatDoorMD

/- A scanner as it lies in memory: its box, the row of the bytes that came, the row of the elements that are open, what these hold; what a call may turn, and what stays. No condition. -/
namespace Go.Proofs.YtolnpfcncmcacaaGreatDoor
open Go.RowKit Go.Lib Go.Shelf Tg Sn

/-! ### Elements in blocks of a set -/
inductive InS (S : Nat → Prop) (w : World) : El → Value → Prop
  | mk (sp nm : ByteArray) (atr : List At) (tx : ByteArray) (ks : List El) (a : Value) (aK : Option Addr) (cK : Nat) (V : Nat → Nat → Value) :
      Szd sp nm tx atr → SlA S w a atr → ks.length ≤ maxLen →
      (∀ i, i < ks.length → ∃ b o, aK = some ⟨b, o, none⟩ ∧ S b ∧ Five w b (o + i * 5) (V i 0) (V i 1) (V i 2) (V i 3) (V i 4)) →
      (∀ i (h : i < ks.length), InS S w ks[i] (.agg #[V i 0, V i 1, V i 2, V i 3, V i 4])) →
      InS S w (.mk sp nm atr tx ks) (.agg #[.string sp, .string nm, a, .string tx, .slice aK ks.length cK])
theorem Five.lt {w : World} {b o : Nat} {v0 v1 v2 v3 v4 : Value} (h : Five w b o v0 v1 v2 v3 v4) : b < w.heap.size := World.block_lt_of_cell? w _ h.1
theorem Five.keep {w w' : World} {b o : Nat} {v0 v1 v2 v3 v4 : Value} (h : Five w b o v0 v1 v2 v3 v4) (hb : w'.heap[b]? = w.heap[b]?) : Five w' b o v0 v1 v2 v3 v4 :=
  ⟨(World.cell?_of_block (a := ⟨b, o, none⟩) hb).trans h.1, (World.cell?_of_block (a := ⟨b, o + 1, none⟩) hb).trans h.2.1, (World.cell?_of_block (a := ⟨b, o + 2, none⟩) hb).trans h.2.2.1, (World.cell?_of_block (a := ⟨b, o + 3, none⟩) hb).trans h.2.2.2.1, (World.cell?_of_block (a := ⟨b, o + 4, none⟩) hb).trans h.2.2.2.2⟩
theorem InS.keep {S : Nat → Prop} {w w' : World} {e : El} {v : Value} (h : InS S w e v) (hk : ∀ b, S b → b < w.heap.size → w'.heap[b]? = w.heap[b]?) : InS S w' e v := by
  induction h with
  | mk sp nm atr tx ks a aK cK V h0 h1 h2 h3 _ ih =>
    refine .mk sp nm atr tx ks a aK cK V h0 (h1.keep hk) h2 (fun i hi => ?_) ih
    obtain ⟨b, o, ha, hS, hf⟩ := h3 i hi
    exact ⟨b, o, ha, hS, hf.keep (hk b hS hf.lt)⟩
theorem InS.weak {S S' : Nat → Prop} {w : World} {e : El} {v : Value} (h : InS S w e v) (hs : ∀ b, b < w.heap.size → S b → S' b) : InS S' w e v := by
  induction h with
  | mk sp nm atr tx ks a aK cK V h0 h1 h2 h3 _ ih =>
    refine .mk sp nm atr tx ks a aK cK V h0 (h1.weak hs) h2 (fun i hi => ?_) ih
    obtain ⟨b, o, ha, hS, hf⟩ := h3 i hi
    exact ⟨b, o, ha, hs b hf.lt hS, hf⟩
theorem AtS.atIn {S : Nat → Prop} {w : World} {a : Option Addr} {l : List At} (h : AtS S w a l) : AtIn w.heap.size w a l := fun i hi => by
  obtain ⟨b, o, ha, _, h1, h2⟩ := h i hi
  exact ⟨b, o, ha, World.block_lt_of_cell? w _ h1, h1, h2⟩
/-- As layer 5 has it. -/
theorem InS.toIn {S : Nat → Prop} {w : World} {e : El} {v : Value} (h : InS S w e v) : In w.heap.size w e v := by
  induction h with
  | mk sp nm atr tx ks a aK cK V h0 h1 h2 h3 _ ih =>
    obtain ⟨aA, cA, rfl, q1, q2, q3⟩ := h1
    refine .mk sp nm atr tx ks aA cA aK cK V h0 ⟨q1, q2⟩ h2 q3.atIn (fun i hi => ?_) ih
    obtain ⟨b, o, ha, _, hf⟩ := h3 i hi
    exact ⟨b, o, ha, hf.lt, hf⟩
theorem szd0 : Szd ⟨#[]⟩ ⟨#[]⟩ ⟨#[]⟩ [] := ⟨⟨by decide, by decide, by decide, by decide⟩, fun a h => by cases h⟩
theorem InS.zero (S : Nat → Prop) (w : World) : InS S w El0 (.agg #[.string ⟨#[]⟩, .string ⟨#[]⟩, .slice none 0 0, .string ⟨#[]⟩, .slice none 0 0]) :=
  .mk _ _ _ _ [] _ _ _ (fun _ _ => .bool false) szd0 (SlA.nil _ _) (Nat.zero_le _) (fun i h => by cases h) (fun i h => by cases h)

/-! ### The row of an element's kids -/
/-- A slice that owns the kids ks, five cells each; what they hold lies in S. -/
def KidsRow (N : Nat) (S : Nat → Prop) (w : World) (k : Value) (ks : List El) : Prop :=
  ∃ xs, w.ownsRow N 48 5 k ks.length xs ∧ ∀ i (h : i < ks.length), ∃ v0 v1 v2 v3 v4, xs[i * 5]? = some v0 ∧ xs[i * 5 + 1]? = some v1 ∧ xs[i * 5 + 2]? = some v2 ∧ xs[i * 5 + 3]? = some v3 ∧ xs[i * 5 + 4]? = some v4 ∧ InS S w ks[i] (.agg #[v0, v1, v2, v3, v4])
theorem KidsRow.nil (N : Nat) (S : Nat → Prop) (w : World) : KidsRow N S w (.slice none 0 0) [] := ⟨[], World.ownsRow_nil _ _ _ _, fun i h => by cases h⟩
/-- The values of an open element. -/
structure Ov where
  b : Value
  a : Value
  k : Value
/-- The seven cells of an open element. -/
def cells1 (o : Sn.Op) (v : Ov) : List Value := [v.b, .string o.name, .string o.elem.sp, .string o.elem.nm, v.a, .string o.elem.tx, v.k]
def cellsO : List Sn.Op → List Ov → List Value
  | o :: os, v :: vs => cells1 o v ++ cellsO os vs
  | _, _ => []
theorem cellsO_len : ∀ {os : List Sn.Op} {vs : List Ov}, vs.length = os.length → (cellsO os vs).length = os.length * 7
  | [], [], _ => rfl
  | o :: os, v :: vs, h => by
    have := cellsO_len (os := os) (vs := vs) (by simpa using h)
    simp only [cellsO, cells1, List.length_append, List.length_cons, List.length_nil, this]; omega
theorem cellsO_append : ∀ {os : List Sn.Op} {vs : List Ov} {os' : List Sn.Op} {vs' : List Ov}, vs.length = os.length → cellsO (os ++ os') (vs ++ vs') = cellsO os vs ++ cellsO os' vs'
  | [], [], _, _, _ => rfl
  | o :: os, v :: vs, os', vs', h => by
    simp only [List.cons_append, cellsO, cellsO_append (os := os) (vs := vs) (os' := os') (vs' := vs') (by simpa using h), List.append_assoc]
/-- What an open element holds, in blocks of S; its kids' row. -/
structure Part (N : Nat) (S : Nat → Prop) (w : World) (o : Sn.Op) (v : Ov) : Prop where
  d : SlA S w v.b o.decl
  a : SlA S w v.a o.elem.atr
  k : KidsRow N S w v.k o.elem.ks
  z : Szd o.elem.sp o.elem.nm o.elem.tx o.elem.atr
  f : Fit 1048576 o.decl ∧ o.decl.length ≤ 1048576 ∧ o.name.size ≤ 1048576

/-! ### The scanner -/
structure Vw where
  tok : Value
  opn : Value
  os : List Ov
  far : Nat → Prop
/-- The blocks that the scanner's calls may turn. -/
def Mut (P : Nat) (v : Vw) (b : Nat) : Prop := b = P ∨ v.tok.ownBlock = some b ∨ v.opn.ownBlock = some b ∨ ∃ x ∈ v.os, x.k.ownBlock = some b
/-- The scanner's blocks that stay. -/
def Imm (N P : Nat) (v : Vw) (b : Nat) : Prop := N ≤ b ∧ ¬ Mut P v b ∧ ¬ v.far b
def byteV (l : B8) : List Value := l.map fun b => .int .u8 (b.toNat : Int)
def scells (v : Vw) (s : St) : Array Value := #[v.tok, .int .u8 (s.quote : Int), .bool s.begun, v.opn, .int .i64 (s.size : Int), .bool s.over, .int .i64 (s.err : Int)]
/-- Block P is a scanner in that state. -/
structure Sc (N P : Nat) (v : Vw) (w : World) (s : St) : Prop where
  box : w.heap[P]? = some (.cells (scells v s) 62 (0, 0))
  tok : w.ownsRow N 5 1 v.tok s.token.length (byteV s.token)
  opn : w.ownsRow N 155 7 v.opn s.os.length (cellsO s.os v.os)
  len : v.os.length = s.os.length
  part : ∀ i (h : i < s.os.length) (h2 : i < v.os.length), Part N (Imm N P v) w s.os[i] v.os[i]
  apart : ∀ i j (h : i < j) (h2 : j < v.os.length) b, (v.os[i]'(by omega)).k.ownBlock = some b → v.os[j].k.ownBlock ≠ some b
  gd : Gd w
  low : 3 < N ∧ 3 ≠ P ∧ N ≤ w.heap.size
  off : ∀ b, v.far b → b < w.heap.size ∧ ¬ Mut P v b
/-- What a call of the scanner leaves: all blocks that are not the scanner's to turn. -/
structure Fr (P : Nat) (v : Vw) (w w' : World) (v' : Vw) : Prop where
  os : w'.os = w.os
  tape : w'.tape = w.tape
  output : w'.output = w.output
  size : w.heap.size ≤ w'.heap.size
  block : ∀ b, b < w.heap.size → ¬ Mut P v b → w'.heap[b]? = w.heap[b]?
  turn : ∀ b, Mut P v' b → Mut P v b ∨ w.heap.size ≤ b
  farUp : ∀ b, v'.far b → v.far b ∨ w.heap.size ≤ b
  farLo : ∀ b, v.far b → v'.far b
theorem Fr.refl (P : Nat) (v : Vw) (w : World) : Fr P v w w v := ⟨rfl, rfl, rfl, Nat.le_refl _, fun _ _ _ => rfl, fun _ h => .inl h, fun _ h => .inl h, fun _ h => h⟩
theorem Fr.trans {P : Nat} {v v1 v2 : Vw} {w w1 w2 : World} (h : Fr P v w w1 v1) (k : Fr P v1 w1 w2 v2) : Fr P v w w2 v2 :=
  ⟨k.os.trans h.os, k.tape.trans h.tape, k.output.trans h.output, Nat.le_trans h.size k.size, fun b hb hm => (k.block b (Nat.lt_of_lt_of_le hb h.size) (fun hm1 => by
    rcases h.turn b hm1 with h1 | h1
    · exact hm h1
    · omega)).trans (h.block b hb hm), fun b hb => by
    rcases k.turn b hb with h1 | h1
    · exact h.turn b h1
    · exact .inr (Nat.le_trans h.size h1), fun b hb => by
    rcases k.farUp b hb with h1 | h1
    · exact h.farUp b h1
    · exact .inr (Nat.le_trans h.size h1), fun b hb => k.farLo b (h.farLo b hb)⟩
theorem Fr.below {P : Nat} {v : Vw} {w w' : World} (h : Below w.heap.size w w') : Fr P v w w' v := ⟨h.os, h.tape, h.output, h.size, fun b hb _ => h.block b hb, fun _ hm => .inl hm, fun _ hm => .inl hm, fun _ hm => hm⟩
theorem Fr.set {P : Nat} {v v' : Vw} {w w' : World} (h : Fr P v w w' v') {a : Addr} (ha : Mut P v a.block ∨ w.heap.size ≤ a.block) (u : Value) : Fr P v w (w'.setCell a u) v' :=
  ⟨h.os, h.tape, h.output, by simpa [World.setCell] using h.size, fun b hb hm => (Below.heap_setCell _ _ _ _ (fun e => by
    subst e
    rcases ha with ha | ha
    · exact hm ha
    · omega)).trans (h.block b hb hm), h.turn, h.farUp, h.farLo⟩
/-- The blocks that stay stay. -/
theorem Imm.fr {N P : Nat} {v v' : Vw} {w w' : World} (h : Fr P v w w' v') {b : Nat} (hb : b < w.heap.size) (hi : Imm N P v b) : Imm N P v' b :=
  ⟨hi.1, fun hm => by
    rcases h.turn b hm with h1 | h1
    · exact hi.2.1 h1
    · omega, fun hm => by
    rcases h.farUp b hm with h1 | h1
    · exact hi.2.2 h1
    · omega⟩
theorem InS.fr {N P : Nat} {v v' : Vw} {w w' : World} {e : El} {x : Value} (h : InS (Imm N P v) w e x) (hf : Fr P v w w' v') : InS (Imm N P v') w' e x := by
  have h1 : InS (fun b => Imm N P v b ∧ b < w.heap.size) w e x := h.weak fun b hb hi => ⟨hi, hb⟩
  have h2 := h1.keep (w' := w') fun b hi hb => hf.block b hb hi.1.2.1
  exact h2.weak fun b _ hi => hi.1.fr hf hi.2
theorem SlA.fr {N P : Nat} {v v' : Vw} {w w' : World} {l : List At} {x : Value} (h : SlA (Imm N P v) w x l) (hf : Fr P v w w' v') : SlA (Imm N P v') w' x l := by
  have h1 : SlA (fun b => Imm N P v b ∧ b < w.heap.size) w x l := h.weak fun b hb hi => ⟨hi, hb⟩
  have h2 := h1.keep (w' := w') fun b hi hb => hf.block b hb hi.1.2.1
  exact h2.weak fun b _ hi => hi.1.fr hf hi.2
theorem KidsRow.fr {N P : Nat} {v v' : Vw} {w w' : World} {l : List El} {x : Value} (h : KidsRow N (Imm N P v) w x l) (hf : Fr P v w w' v') (hk : ∀ b, x.ownBlock = some b → w'.heap[b]? = w.heap[b]?) : KidsRow N (Imm N P v') w' x l := by
  obtain ⟨xs, h1, h2⟩ := h
  refine ⟨xs, ⟨h1.1, ?_⟩, fun i hi => ?_⟩
  · rcases h1.2 with h3 | ⟨g, cap, cur, rfl, q1, q2, q3⟩
    · exact .inl h3
    · exact .inr ⟨g, cap, cur, rfl, q1, (hk g rfl).trans q2, q3⟩
  · obtain ⟨v0, v1, v2, v3, v4, a0, a1, a2, a3, a4, hin⟩ := h2 i hi
    exact ⟨v0, v1, v2, v3, v4, a0, a1, a2, a3, a4, hin.fr hf⟩
theorem Part.fr {N P : Nat} {v v' : Vw} {w w' : World} {o : Sn.Op} {x : Ov} (h : Part N (Imm N P v) w o x) (hf : Fr P v w w' v') (hk : ∀ b, x.k.ownBlock = some b → w'.heap[b]? = w.heap[b]?) : Part N (Imm N P v') w' o x :=
  ⟨h.d.fr hf, h.a.fr hf, h.k.fr hf hk, h.z, h.f⟩
theorem own_keep {w w' : World} {N n s : Nat} {T : TypeId} {v : Value} {xs : List Value} (h : w.ownsRow N T s v n xs) (hk : ∀ b, v.ownBlock = some b → w'.heap[b]? = w.heap[b]?) : w'.ownsRow N T s v n xs := by
  refine ⟨h.1, ?_⟩
  rcases h.2 with h3 | ⟨g, cap, cur, rfl, q1, q2, q3⟩
  · exact .inl h3
  · exact .inr ⟨g, cap, cur, rfl, q1, (hk g rfl).trans q2, q3⟩
/-- A row's block, and its type. -/
theorem own_heap {w : World} {N n s : Nat} {T : TypeId} {v : Value} {xs : List Value} (h : w.ownsRow N T s v n xs) {b : Nat} (hb : v.ownBlock = some b) : N ≤ b ∧ ∃ cur, w.heap[b]? = some (.cells cur T (0, 0)) := by
  rcases h.2 with ⟨rfl, _⟩ | ⟨g, cap, cur, rfl, q1, q2, q3⟩
  · cases hb
  · cases hb
    exact ⟨q1, cur, q2⟩
/-- What keeps the old blocks keeps the scanner. -/
theorem Sc.below {N P : Nat} {v : Vw} {w w' : World} {s : St} (h : Sc N P v w s) (hb : Below w.heap.size w w') : Sc N P v w' s := by
  have lt : ∀ {b : Nat} {o : Obj}, w.heap[b]? = some o → w'.heap[b]? = w.heap[b]? := fun hh => hb.block _ (heap_lt hh)
  have hf : Fr P v w w' v := Fr.below hb
  refine ⟨(lt h.box).trans h.box, own_keep h.tok (fun b e => lt (own_heap h.tok e).2.choose_spec), own_keep h.opn (fun b e => lt (own_heap h.opn e).2.choose_spec), h.len, fun i h1 h2 => ?_, h.apart, h.gd.below hb, ⟨h.low.1, h.low.2.1, Nat.le_trans h.low.2.2 hb.size⟩, fun b hf2 => ⟨Nat.lt_of_lt_of_le (h.off b hf2).1 hb.size, (h.off b hf2).2⟩⟩
  have p := h.part i h1 h2
  obtain ⟨xs, k1, k2⟩ := p.k
  exact p.fr hf (fun b e => lt (own_heap k1 e).2.choose_spec)
end Go.Proofs.YtolnpfcncmcacaaGreatDoor

/- The contract of (*Scanner).cut: a byte is laid behind what has come; the token that is whole by it. Condition: at most 2^40 bytes have come of a token. -/
namespace Go.Proofs.YtolnpfcncmcacaaGreatDoor
open Go.RowKit Go.Lib Go.Shelf Tg Sn

/-! ### Worlds that part in some blocks -/
structure Ow (X : Nat → Prop) (w w' : World) : Prop where
  os : w'.os = w.os
  tape : w'.tape = w.tape
  output : w'.output = w.output
  size : w.heap.size ≤ w'.heap.size
  block : ∀ b, b < w.heap.size → ¬ X b → w'.heap[b]? = w.heap[b]?
theorem Ow.of {X : Nat → Prop} {w w' : World} (h : Below w.heap.size w w') : Ow X w w' := ⟨h.os, h.tape, h.output, h.size, fun b hb _ => h.block b hb⟩
theorem Ow.refl (X : Nat → Prop) (w : World) : Ow X w w := Ow.of (Below.refl _ _)
theorem Ow.trans {X Y : Nat → Prop} {w w1 w2 : World} (h : Ow X w w1) (k : Ow Y w1 w2) (hY : ∀ b, b < w.heap.size → Y b → X b) : Ow X w w2 :=
  ⟨k.os.trans h.os, k.tape.trans h.tape, k.output.trans h.output, Nat.le_trans h.size k.size, fun b hb hx => (k.block b (Nat.lt_of_lt_of_le hb h.size) (fun hy => hx (hY b hb hy))).trans (h.block b hb hx)⟩
theorem Ow.call {X : Nat → Prop} {w w1 w2 : World} (h : Ow X w w1) (hb : Below w1.heap.size w1 w2) : Ow X w w2 := by
  have k : Ow (fun _ => False) w1 w2 := Ow.of hb
  exact h.trans k fun _ _ hf => hf.elim
theorem Ow.alloc {X : Nat → Prop} {w w1 : World} (h : Ow X w w1) (o : Obj) : Ow X w (w1.alloc o) := h.call ((Below.refl _ _).alloc (Nat.le_refl _) o)
theorem Ow.grown {X : Nat → Prop} {w w1 w2 : World} {row : Option Nat} (h : Ow X w w1) (hg : w1.grownBy w2 row) (hr : ∀ b, row = some b → b < w.heap.size → X b) : Ow X w w2 := by
  have k : Ow (fun b => row = some b) w1 w2 := ⟨hg.os, hg.tape, hg.output, hg.size, fun b hb hx => hg.block b hb (fun e => hx e.symm)⟩
  exact h.trans k fun b hb hy => hr b hy hb
theorem Ow.set {X : Nat → Prop} {w w1 : World} (h : Ow X w w1) {a : Addr} (ha : a.block < w.heap.size → X a.block) (u : Value) : Ow X w (w1.setCell a u) := by
  have k : Ow (fun b => b = a.block) w1 (w1.setCell a u) := ⟨rfl, rfl, rfl, by simp [World.setCell], fun b _ hx => Below.heap_setCell _ _ _ _ (fun e => hx e)⟩
  refine h.trans k fun b hb hy => ?_
  subst hy
  exact ha hb
theorem Ow.weak {X Y : Nat → Prop} {w w1 : World} (h : Ow X w w1) (hY : ∀ b, X b → Y b) : Ow Y w w1 := ⟨h.os, h.tape, h.output, h.size, fun b hb hx => h.block b hb (fun hx2 => hx (hY b hx2))⟩
theorem Fr.of {P : Nat} {v v' : Vw} {w w' : World} (h : Ow (Mut P v) w w') (hm : ∀ b, Mut P v' b → Mut P v b ∨ w.heap.size ≤ b) (hfar : v'.far = v.far := by rfl) : Fr P v w w' v' := ⟨h.os, h.tape, h.output, h.size, h.block, hm, fun b hb => .inl (by rw [hfar] at hb; exact hb), fun b hb => by rw [hfar]; exact hb⟩
theorem Sc.offs {N P : Nat} {v v' : Vw} {w w' : World} {s : St} (h : Sc N P v w s) (hf : Fr P v w w' v') (hfar : v'.far = v.far := by rfl) : ∀ b, v'.far b → b < w'.heap.size ∧ ¬ Mut P v' b := fun b hb => by
  rw [hfar] at hb
  obtain ⟨h1, h2⟩ := h.off b hb
  refine ⟨Nat.lt_of_lt_of_le h1 hf.size, fun hm => ?_⟩
  rcases hf.turn b hm with h3 | h3
  · exact h2 h3
  · omega
theorem Sc.boxlt {N P : Nat} {v : Vw} {w : World} {s : St} (h : Sc N P v w s) : P < w.heap.size := heap_lt h.box
/-- Rows of unlike types lie in unlike blocks. -/
theorem ne_of_type {w : World} {a b : Nat} {ca cb : Array Value} {T U : TypeId} (ha : w.heap[a]? = some (.cells ca T (0, 0))) (hb : w.heap[b]? = some (.cells cb U (0, 0))) (h : T ≠ U) : a ≠ b := by
  rintro rfl
  rw [ha] at hb
  cases hb
  exact h rfl
theorem Gd.keep {w w' : World} (h : Gd w) (hk : w'.heap[3]? = w.heap[3]?) : Gd w' := by
  obtain ⟨te, pe, hc⟩ := h
  exact ⟨te, pe, (World.cell?_of_block (a := ⟨3, 0, none⟩) hk).trans hc⟩
theorem Sc.glow {N P : Nat} {v : Vw} {w : World} {s : St} (h : Sc N P v w s) : ¬ Mut P v 3 := by
  intro hm
  have := h.low
  rcases hm with h1 | h1 | h1 | ⟨x, hx, h1⟩
  · exact h.low.2.1 h1
  · have := (own_heap h.tok h1).1; omega
  · have := (own_heap h.opn h1).1; omega
  · obtain ⟨i, hi, rfl⟩ := List.getElem_of_mem hx
    obtain ⟨xs, k1, _⟩ := (h.part i (by rw [← h.len]; exact hi) hi).k
    have := (own_heap k1 h1).1; omega
/-- The token turns, and the quote. -/
theorem Sc.newTok {N P : Nat} {v : Vw} {w w' : World} {s : St} (h : Sc N P v w s) {t : Value} {l : B8} {q : Nat} (ho : Ow (fun b => b = P ∨ v.tok.ownBlock = some b) w w')
    (hb : w'.heap[P]? = some (.cells (scells { v with tok := t } { s with token := l, quote := q }) 62 (0, 0))) (ht : w'.ownsRow N 5 1 t l.length (byteV l))
    (hn : ∀ b, t.ownBlock = some b → v.tok.ownBlock = some b ∨ w.heap.size ≤ b) :
    Sc N P { v with tok := t } w' { s with token := l, quote := q } ∧ Fr P v w w' { v with tok := t } := by
  have hf : Fr P v w w' { v with tok := t } := Fr.of (ho.weak fun b hx => by rcases hx with hx | hx; exact .inl hx; exact .inr (.inl hx)) fun b hm => by
    rcases hm with h1 | h1 | h1
    · exact .inl (.inl h1)
    · rcases hn b h1 with h2 | h2
      · exact .inl (.inr (.inl h2))
      · exact .inr h2
    · exact .inl (.inr (.inr h1))
  have keepB : ∀ {b : Nat} {T : TypeId} {cur : Array Value}, w.heap[b]? = some (.cells cur T (0, 0)) → T ≠ 62 → T ≠ 5 → w'.heap[b]? = w.heap[b]? := by
    intro b T cur hh h1 h2
    refine ho.block b (heap_lt hh) ?_
    rintro (e | e)
    · exact ne_of_type hh h.box h1 e
    · obtain ⟨_, c2, hc⟩ := own_heap h.tok e
      exact ne_of_type hh hc h2 rfl
  refine ⟨⟨hb, ht, ?_, h.len, fun i h1 h2 => ?_, h.apart, ?_, ⟨h.low.1, h.low.2.1, Nat.le_trans h.low.2.2 ho.size⟩, h.offs hf⟩, hf⟩
  · exact own_keep h.opn fun b e => (own_heap h.opn e).2.elim fun c hc => keepB hc (by decide) (by decide)
  · have p := h.part i h1 h2
    obtain ⟨xs, k1, k2⟩ := p.k
    exact p.fr hf fun b e => (own_heap k1 e).2.elim fun c hc => keepB hc (by decide) (by decide)
  · obtain ⟨te, pe, hc⟩ := h.gd
    exact h.gd.keep (ho.block _ (World.block_lt_of_cell? w _ hc) (fun hx => h.glow (by rcases hx with hx | hx; exact .inl hx; exact .inr (.inl hx))))
theorem bxS {w : World} {P : Nat} {v : Vw} {s : St} (h : w.heap[P]? = some (.cells (scells v s) 62 (0, 0))) :
    (w.cell? ⟨P, 0, none⟩ = some v.tok ∧ w.cell? ⟨P, 1, none⟩ = some (.int .u8 (s.quote : Int)) ∧ w.cell? ⟨P, 2, none⟩ = some (.bool s.begun) ∧ w.cell? ⟨P, 3, none⟩ = some v.opn ∧ w.cell? ⟨P, 4, none⟩ = some (.int .i64 (s.size : Int)) ∧ w.cell? ⟨P, 5, none⟩ = some (.bool s.over) ∧ w.cell? ⟨P, 6, none⟩ = some (.int .i64 (s.err : Int))) ∧ (∀ i, w.frozen? ⟨P, i, none⟩ = false) :=
  ⟨bx7 h, fun i => Lib.frozen_of_heap h i⟩
theorem tok_conv {w : World} {N : Nat} {v : Value} {l : B8} (h : w.ownsRow N 5 1 v l.length (byteV l)) : (convert 25 9 v).run Tryz.prog w = .ok (.string (Sn.mk l)) w := by
  rcases h.2 with ⟨rfl, h0⟩ | ⟨g, cap, cur, e0, q1, q2, q3, q4, q5, q6⟩
  · obtain rfl := List.length_eq_zero_iff.1 h0
    rw [run_convert_bytes_string w 25 9 5 none 0 0 Tryz.underlying25 Tryz.underlying5 Tryz.underlying9]
    rfl
  · subst e0
    refine run_convert_bytes_back w 25 9 5 _ cap l Tryz.underlying25 Tryz.underlying5 Tryz.underlying9 fun j hj => ?_
    have h0 : (⟨g, 0, none⟩ : Addr).add j = ⟨g, j, none⟩ := by unfold Addr.add; split <;> simp_all
    rw [h0, Lib.cell_of_heap q2]
    have hj2 : (byteV l)[j]? = some (.int .u8 (l[j].toNat : Int)) := by simp [byteV, List.getElem?_eq_getElem hj]
    rw [← q6, List.getElem?_take] at hj2
    split at hj2
    · simpa using hj2
    · cases hj2
theorem tok_zero {w : World} {N : Nat} {a : Option Addr} {c n : Nat} {xs : List Value} (h : w.ownsRow N 5 1 (.slice a n c) n xs) : w.ownsRow N 5 1 (.slice a 0 c) 0 [] := by
  refine ⟨rfl, ?_⟩
  rcases h.2 with ⟨h1, h0⟩ | ⟨g, cap, cur, h1, q1, q2, q3, q4, q5, q6⟩
  · cases h1; exact .inl ⟨rfl, rfl⟩
  · cases h1; exact .inr ⟨g, c, cur, rfl, q1, q2, Nat.zero_le _, q4, q5, by simp⟩
theorem byteV_snoc (l : B8) (c : UInt8) : byteV (l ++ [c]) = byteV l ++ [.int .u8 (c.toNat : Int)] := by simp [byteV]
theorem infoU8 : (Tryz.prog.info? 5).map (fun i => (i.zero, i.size, i.bytes)) = some (some (.int .u8 0), 1, 1) := by kernel_rfl
/-- What cut answers. -/
def CtP (N P : Nat) (v : Vw) (s : St) (c : UInt8) (w : World) (e : Ending) (w' : World) : Prop :=
  ∃ v', e = .returned (.string (Sn.mk (Sn.cut s c).2)) ∧ Sc N P v' w' (Sn.cut s c).1 ∧ Fr P v w w' v' ∧ v'.opn = v.opn ∧ v'.os = v.os
theorem CtP.mk {N P : Nat} {v : Vw} {s : St} {c : UInt8} {w w' : World} {e : Ending} {t : Value} {l r : B8} {q : Nat} (h : Sc N P v w s) (hc : Sn.cut s c = ({ s with token := l, quote := q }, r))
    (ho : Ow (fun b => b = P ∨ v.tok.ownBlock = some b) w w')
    (hb : w'.heap[P]? = some (.cells (scells { v with tok := t } { s with token := l, quote := q }) 62 (0, 0))) (ht : w'.ownsRow N 5 1 t l.length (byteV l))
    (hn : ∀ b, t.ownBlock = some b → v.tok.ownBlock = some b ∨ w.heap.size ≤ b) (he : e = .returned (.string (Sn.mk r))) : CtP N P v s c w e w' := by
  obtain ⟨h1, h2⟩ := h.newTok ho hb ht hn
  refine ⟨_, by rw [hc]; exact he, by rw [hc]; exact h1, h2, rfl, rfl⟩
/-- Behind an append of one byte to the token, and the store of what it gave. -/
structure Tk (N P : Nat) (v : Vw) (w : World) (s : St) (l : B8) (q : Nat) (t : Value) (w' : World) : Prop where
  ow : Ow (fun b => b = P ∨ v.tok.ownBlock = some b) w w'
  box : w'.heap[P]? = some (.cells (scells { v with tok := t } { s with token := l, quote := q }) 62 (0, 0))
  own : w'.ownsRow N 5 1 t l.length (byteV l)
  new : ∀ b, t.ownBlock = some b → v.tok.ownBlock = some b ∨ w.heap.size ≤ b
theorem Tk.app {N P : Nat} {v : Vw} {w w2 : World} {s : St} (h : Sc N P v w s) {x : Value} {c : UInt8} {l : B8} {g cap : Nat} {o1 : Obj} (hx : x.ownBlock = v.tok.ownBlock)
    (hown : w2.ownsRow N 5 1 (.slice (some ⟨g, 0, none⟩) (l.length + 1) cap) (l.length + 1) (byteV l ++ [.int .u8 (c.toNat : Int)])) (hg : (w.alloc o1).grownBy w2 x.ownBlock) (hat : x.ownBlock = some g ∨ g = w.heap.size + 1) :
    Tk N P v w s (l ++ [c]) s.quote (.slice (some ⟨g, 0, none⟩) (l.length + 1) cap) (w2.setCell ⟨P, 0, none⟩ (.slice (some ⟨g, 0, none⟩) (l.length + 1) cap)) := by
  have hlt := h.boxlt
  have hPt : ∀ b, v.tok.ownBlock = some b → b ≠ P := fun b e => (own_heap h.tok e).2.elim fun cc hc => ne_of_type hc h.box (by decide)
  have hP2 : w2.heap[P]? = some (.cells (scells v s) 62 (0, 0)) := (hg.block P (by simp; omega) (by rw [hx]; intro e; exact hPt P e.symm rfl)).trans ((Below.heap_alloc _ _ _ hlt).trans h.box)
  have hgP : g ≠ P := by
    rcases hat with e | e
    · rw [hx] at e; exact hPt g e
    · omega
  refine ⟨?_, ?_, ?_, ?_⟩
  · exact (((Ow.refl _ w).alloc o1).grown hg (fun b e _ => .inr (by rw [← hx]; exact e))).set (fun _ => .inl rfl) _
  · simp [World.setCell, Array.getElem?_modify, hP2, scells]
  · rw [byteV_snoc, List.length_append, List.length_singleton]
    exact own_keep hown fun b e => by
      cases e
      exact Below.heap_setCell _ _ _ _ hgP
  · intro b e
    cases e
    rcases hat with e | e
    · rw [hx] at e; exact .inl e
    · exact .inr (by show w.heap.size ≤ g; omega)
/-- The quote turns besides. -/
theorem Tk.quote {N P : Nat} {v : Vw} {w w2 : World} {s : St} {l : B8} {q q' : Nat} {t : Value} (h : Tk N P v w s l q t w2) (hP : ∀ b, t.ownBlock = some b → b ≠ P) : Tk N P v w s l q' t (w2.setCell ⟨P, 1, none⟩ (.int .u8 (q' : Int))) := by
  refine ⟨h.ow.set (fun _ => .inl rfl) _, ?_, own_keep h.own (fun b e => Below.heap_setCell _ _ _ _ (hP b e)), h.new⟩
  have := h.box
  simp [World.setCell, Array.getElem?_modify, this, scells]
/-- The token is emptied. -/
theorem Tk.empty {N P : Nat} {v : Vw} {w w2 : World} {s : St} {l : B8} {q n c : Nat} {a : Option Addr} (h : Tk N P v w s l q (.slice a n c) w2) (hP : ∀ b, (Value.slice a n c).ownBlock = some b → b ≠ P) (hn : n = l.length) : Tk N P v w s [] q (.slice a 0 c) (w2.setCell ⟨P, 0, none⟩ (.slice a 0 c)) := by
  subst hn
  refine ⟨h.ow.set (fun _ => .inl rfl) _, ?_, own_keep (tok_zero h.own) (fun b e => Below.heap_setCell _ _ _ _ (hP b (by cases a with | none => cases e | some a => exact e))), fun b e => h.new b (by cases a with | none => cases e | some a => exact e)⟩
  have := h.box
  simp [World.setCell, Array.getElem?_modify, this, scells]
end Go.Proofs.YtolnpfcncmcacaaGreatDoor

/- The contract of (*Scanner).cut, walked: a byte is laid behind what has come; the token that is whole by it. Condition: at most 1048576 bytes have come of a token. -/
namespace Go.Proofs.YtolnpfcncmcacaaGreatDoor
open Go.RowKit Go.Lib Go.Shelf Tg Sn

/-- How the test for a tag goes: nothing has come, or its first byte is y. -/
theorem tok_first {w : World} {N n c : Nat} {a : Option Addr} {l : B8} (h : w.ownsRow N 5 1 (.slice a n c) n (byteV l)) (hn : n = l.length) :
    l = [] ∨ ∃ y r g, l = y :: r ∧ a = some ⟨g, 0, none⟩ ∧ w.cell? ⟨g, 0, none⟩ = some (.int .u8 (y.toNat : Int)) := by
  cases l with
  | nil => exact .inl rfl
  | cons y r =>
    right
    rcases h.2 with ⟨_, h0⟩ | ⟨g, cap, cur, h1, q1, q2, q3, q4, q5, q6⟩
    · subst hn; cases h0
    · cases h1
      refine ⟨y, r, g, rfl, rfl, ?_⟩
      rw [Lib.cell_of_heap q2]
      have hj2 : (byteV (y :: r))[0]? = some (.int .u8 (y.toNat : Int)) := rfl
      rw [← q6, List.getElem?_take] at hj2
      split at hj2
      · simpa using hj2
      · cases hj2
theorem tk_ne {N P : Nat} {v : Vw} {w w2 : World} {s : St} {l : B8} {q g n c : Nat} (h : Sc N P v w s) (k : Tk N P v w s l q (.slice (some ⟨g, 0, none⟩) n c) w2) : g ≠ P := by
  rcases k.new g rfl with e | e
  · obtain ⟨_, cc, hc⟩ := own_heap h.tok e
    exact ne_of_type hc h.box (by decide)
  · have := h.boxlt; omega
theorem same_block (a : Option Addr) (n m c d : Nat) : (Value.slice a n c).ownBlock = (Value.slice a m d).ownBlock := by cases a <;> rfl
set_option maxRecDepth 100000 in
set_option maxHeartbeats 8000000 in
theorem cut_lt (N P : Nat) (v : Vw) (s : St) (c : UInt8) (w : World) (h : Sc N P v w s) (_hl : s.token.length ≤ 1048576) (ht : s.token.head? ≠ some 60) (hc : c = 60) :
    Calls Tryz.prog 45 #[.pointer (some ⟨P, 0, none⟩), .int .u8 (c.toNat : Int)] w (CtP N P v s c w) := by
  obtain ⟨i0, hi0, hz0, hz1, hz2⟩ := info_parts infoU8
  obtain ⟨va, vc, hv⟩ := own_form h.tok
  obtain ⟨vt, vo, vs, vf⟩ := v
  simp only at hv
  subst hv
  have HS := Lib.hid h
  have HN := Lib.hid h.low.2.2
  have HPT : Hid (∀ b, (Value.slice va s.token.length vc).ownBlock = some b → b ≠ P) := fun b e => (own_heap h.tok e).2.elim fun cc hc => ne_of_type hc h.box (by decide)
  obtain ⟨⟨x0, x1, x2, x3, x4, x5, x6⟩, hfr⟩ := bxS h.box
  have f00 := hfr 0
  simp only at x0 x3
  have HOWN : Hid (w.ownsRow N 5 1 (.slice va s.token.length vc) s.token.length (byteV s.token)) := h.tok
  have HZ := Lib.hid (tok_zero h.tok)
  have hcv := tok_conv h.tok
  simp only at hcv
  have c256 : c.toNat < 256 := UInt8.toNat_lt c
  have HC : Hid (Sn.cut s c = ({ s with token := [c], quote := s.quote }, s.token)) := by show _ = _; unfold Sn.cut; rw [if_pos ht, if_pos hc]
  have e60 : ((c.toNat : Int) == 60) = true := by subst hc; rfl
  have hTG : (¬ 0 < s.token.length) ∨ (0 < s.token.length ∧ ∃ (y g : Nat), va = some ⟨g, 0, none⟩ ∧ w.cell? ⟨g, 0, none⟩ = some (.int .u8 (y : Int)) ∧ ((y : Int) == 60) = false ∧ (0 : Int) < (s.token.length : Int)) := by
    rcases tok_first h.tok rfl with h0 | ⟨y, r, g, h0, h1, h2⟩
    · left; rw [h0]; simp
    · right
      refine ⟨by rw [h0, List.length_cons]; omega, y.toNat, g, h1, h2, ?_, by rw [h0, List.length_cons]; omega⟩
      rw [beq_eq_false_iff_ne]
      intro e
      apply ht
      rw [h0]
      simp only [List.head?_cons, Option.some.injEq]
      exact UInt8.toNat_inj.1 (by simpa using (by omega : y.toNat = 60))
  clear hc ht _hl hfr h
  rcases hTG with e1 | ⟨e1, y, g, rfl, hy, e2, e3⟩
  all_goals
    go_enter Tryz.func45, Tryz.ntmps45
    go_wp2_with (first | (at_builtin; go_loud (refine wpList_append_lies _ rfl _ _ 25 rfl N 5 i0 _ 1 1 Tryz.underlying25 hi0 hz0 hz1 hz2 rfl (by decide) (.slice _ 0 vc) 0 (byteV []) rfl (World.ownsRow.alloc HZ.out _) ⟨w.heap.size, 0, none⟩ 1 1 [.int .u8 (c.toNat : Int)] rfl rfl (World.news_of_block (cs := #[.int .u8 (c.toNat : Int)]) (t := 5) (fr := (0, 0)) (heap_alloc_new w _)) (by simp [Value.oneCell']) (by decide) (by unfold maxLen; omega) (by omega) (by have := HN.out; simp; omega) _ rfl ?_; intro g2 cap w2 hown hgrow hat hlt2; have HTK := Lib.hid (Tk.app (c := c) (l := []) HS.out (same_block _ _ _ _ _) hown hgrow (hat.imp id (fun h => by simpa using h))); have HP2 := Lib.hid ((hgrow.block P (by have := HS.out.boxlt; simp; omega) (by intro e; rw [same_block _ _ s.token.length _ vc] at e; exact (HPT.out P e.symm) rfl)).trans ((Below.heap_alloc _ _ _ HS.out.boxlt).trans HS.out.box)); obtain ⟨⟨b0, b1, b2, b3, b4, b5, b6⟩, hfz⟩ := bxS HP2.out; have f0 := hfz 0; have f1 := hfz 1; clear hown hgrow hat hlt2 hfz)) | fail)
    go_ret
    exact CtP.mk HS.out HC.out HTK.out.ow HTK.out.box HTK.out.own HTK.out.new rfl
set_option maxRecDepth 100000 in
set_option maxHeartbeats 8000000 in
theorem cut_ch (N P : Nat) (v : Vw) (s : St) (c : UInt8) (w : World) (h : Sc N P v w s) (hl : s.token.length ≤ 1048576) (ht : s.token.head? ≠ some 60) (hc : c ≠ 60) :
    Calls Tryz.prog 45 #[.pointer (some ⟨P, 0, none⟩), .int .u8 (c.toNat : Int)] w (CtP N P v s c w) := by
  obtain ⟨i0, hi0, hz0, hz1, hz2⟩ := info_parts infoU8
  obtain ⟨va, vc, hv⟩ := own_form h.tok
  obtain ⟨vt, vo, vs, vf⟩ := v
  simp only at hv
  subst hv
  have HS := Lib.hid h
  have HN := Lib.hid h.low.2.2
  have HPT : Hid (∀ b, (Value.slice va s.token.length vc).ownBlock = some b → b ≠ P) := fun b e => (own_heap h.tok e).2.elim fun cc hc => ne_of_type hc h.box (by decide)
  obtain ⟨⟨x0, x1, x2, x3, x4, x5, x6⟩, hfr⟩ := bxS h.box
  have f00 := hfr 0
  simp only at x0 x3
  have HOWN : Hid (w.ownsRow N 5 1 (.slice va s.token.length vc) s.token.length (byteV s.token)) := h.tok
  have HZ := Lib.hid (tok_zero h.tok)
  have hcv := tok_conv h.tok
  simp only at hcv
  have c256 : c.toNat < 256 := UInt8.toNat_lt c
  have HC : Hid (Sn.cut s c = ({ s with token := s.token ++ [c], quote := s.quote }, [])) := by show _ = _; unfold Sn.cut; rw [if_pos ht, if_neg hc]
  have e60 : ((c.toNat : Int) == 60) = false := by rw [beq_eq_false_iff_ne]; intro e; exact hc (UInt8.toNat_inj.1 (by simpa using (by omega : c.toNat = 60)))
  have hTG : (¬ 0 < s.token.length) ∨ (0 < s.token.length ∧ ∃ (y g : Nat), va = some ⟨g, 0, none⟩ ∧ w.cell? ⟨g, 0, none⟩ = some (.int .u8 (y : Int)) ∧ ((y : Int) == 60) = false ∧ (0 : Int) < (s.token.length : Int)) := by
    rcases tok_first h.tok rfl with h0 | ⟨y, r, g, h0, h1, h2⟩
    · left; rw [h0]; simp
    · right
      refine ⟨by rw [h0, List.length_cons]; omega, y.toNat, g, h1, h2, ?_, by rw [h0, List.length_cons]; omega⟩
      rw [beq_eq_false_iff_ne]
      intro e
      apply ht
      rw [h0]
      simp only [List.head?_cons, Option.some.injEq]
      exact UInt8.toNat_inj.1 (by simpa using (by omega : y.toNat = 60))
  clear hc ht hfr h hcv
  rcases hTG with e1 | ⟨e1, y, g, rfl, hy, e2, e3⟩
  all_goals
    go_enter Tryz.func45, Tryz.ntmps45
    go_wp2_with (first | (at_builtin; go_loud (refine wpList_append_lies _ rfl _ _ 25 rfl N 5 i0 _ 1 1 Tryz.underlying25 hi0 hz0 hz1 hz2 rfl (by decide) (.slice _ s.token.length vc) s.token.length (byteV s.token) rfl (World.ownsRow.alloc HOWN.out _) ⟨w.heap.size, 0, none⟩ 1 1 [.int .u8 (c.toNat : Int)] rfl rfl (World.news_of_block (cs := #[.int .u8 (c.toNat : Int)]) (t := 5) (fr := (0, 0)) (heap_alloc_new w _)) (by simp [Value.oneCell']) (by decide) (by unfold maxLen; omega) (by omega) (by have := HN.out; simp; omega) _ rfl ?_; intro g2 cap w2 hown hgrow hat hlt2; have HTK := Lib.hid (Tk.app (c := c) (l := s.token) HS.out (same_block _ _ _ _ _) hown hgrow (hat.imp id (fun h => by simpa using h))); have HP2 := Lib.hid ((hgrow.block P (by have := HS.out.boxlt; simp; omega) (by intro e; rw [same_block _ _ s.token.length _ vc] at e; exact (HPT.out P e.symm) rfl)).trans ((Below.heap_alloc _ _ _ HS.out.boxlt).trans HS.out.box)); obtain ⟨⟨b0, b1, b2, b3, b4, b5, b6⟩, hfz⟩ := bxS HP2.out; have f0 := hfz 0; have f1 := hfz 1; clear hown hgrow hat hlt2 hfz)) | fail)
    go_ret
    exact CtP.mk HS.out HC.out HTK.out.ow HTK.out.box HTK.out.own HTK.out.new rfl
set_option maxRecDepth 100000 in
set_option maxHeartbeats 8000000 in
theorem cut_qe (N P : Nat) (v : Vw) (s : St) (c : UInt8) (w : World) (h : Sc N P v w s) (hl : s.token.length ≤ 1048576) (ht : s.token.head? = some 60) (hq : s.quote ≠ 0) (hc : c.toNat = s.quote) :
    Calls Tryz.prog 45 #[.pointer (some ⟨P, 0, none⟩), .int .u8 (c.toNat : Int)] w (CtP N P v s c w) := by
  obtain ⟨i0, hi0, hz0, hz1, hz2⟩ := info_parts infoU8
  obtain ⟨va, vc, hv⟩ := own_form h.tok
  obtain ⟨vt, vo, vs, vf⟩ := v
  simp only at hv
  subst hv
  have HS := Lib.hid h
  have HN := Lib.hid h.low.2.2
  have HPT : Hid (∀ b, (Value.slice va s.token.length vc).ownBlock = some b → b ≠ P) := fun b e => (own_heap h.tok e).2.elim fun cc hc => ne_of_type hc h.box (by decide)
  obtain ⟨⟨x0, x1, x2, x3, x4, x5, x6⟩, hfr⟩ := bxS h.box
  have f00 := hfr 0
  simp only at x0 x3
  have HOWN : Hid (w.ownsRow N 5 1 (.slice va s.token.length vc) s.token.length (byteV s.token)) := h.tok
  have HZ := Lib.hid (tok_zero h.tok)
  have hcv := tok_conv h.tok
  simp only at hcv
  have c256 : c.toNat < 256 := UInt8.toNat_lt c
  have HC : Hid (Sn.cut s c = ({ s with token := s.token ++ [c], quote := 0 }, [])) := by show _ = _; unfold Sn.cut; rw [if_neg (by rw [ht]; exact fun h => h rfl)]; rw [if_pos hq, if_pos hc]
  have eq0 : ((s.quote : Int) != 0) = true := by rw [bne_iff_ne]; omega
  have eqc : ((c.toNat : Int) == (s.quote : Int)) = true := by rw [beq_iff_eq]; omega
  have hTG : 0 < s.token.length ∧ ∃ (g : Nat), va = some ⟨g, 0, none⟩ ∧ w.cell? ⟨g, 0, none⟩ = some (.int .u8 60) ∧ (0 : Int) < (s.token.length : Int) := by
    rcases tok_first h.tok rfl with h0 | ⟨y, r, g, h0, h1, h2⟩
    · rw [h0] at ht; cases ht
    · rw [h0] at ht
      simp only [List.head?_cons, Option.some.injEq] at ht
      subst ht
      exact ⟨by rw [h0, List.length_cons]; omega, g, h1, h2, by rw [h0, List.length_cons]; omega⟩
  clear ht hfr h hcv hq hc
  obtain ⟨e1, g, rfl, hy, e3⟩ := hTG
  go_enter Tryz.func45, Tryz.ntmps45
  go_wp2_with (first | (at_builtin; go_loud (refine wpList_append_lies _ rfl _ _ 25 rfl N 5 i0 _ 1 1 Tryz.underlying25 hi0 hz0 hz1 hz2 rfl (by decide) (.slice _ s.token.length vc) s.token.length (byteV s.token) rfl (World.ownsRow.alloc HOWN.out _) ⟨w.heap.size, 0, none⟩ 1 1 [.int .u8 (c.toNat : Int)] rfl rfl (World.news_of_block (cs := #[.int .u8 (c.toNat : Int)]) (t := 5) (fr := (0, 0)) (heap_alloc_new w _)) (by simp [Value.oneCell']) (by decide) (by unfold maxLen; omega) (by omega) (by have := HN.out; simp; omega) _ rfl ?_; intro g2 cap w2 hown hgrow hat hlt2; have HTK := Lib.hid (Tk.app (c := c) (l := s.token) HS.out (same_block _ _ _ _ _) hown hgrow (hat.imp id (fun h => by simpa using h))); have HP2 := Lib.hid ((hgrow.block P (by have := HS.out.boxlt; simp; omega) (by intro e; rw [same_block _ _ s.token.length _ vc] at e; exact (HPT.out P e.symm) rfl)).trans ((Below.heap_alloc _ _ _ HS.out.boxlt).trans HS.out.box)); have HGP := Lib.hid (tk_ne HS.out HTK.out); obtain ⟨⟨b0, b1, b2, b3, b4, b5, b6⟩, hfz⟩ := bxS HP2.out; have f0 := hfz 0; have f1 := hfz 1; clear hown hgrow hat hlt2 hfz)) | fail)
  go_ret
  exact CtP.mk HS.out HC.out (HTK.out.quote (q' := 0) (fun b e => by cases e; exact HGP.out)).ow (HTK.out.quote (q' := 0) (fun b e => by cases e; exact HGP.out)).box (HTK.out.quote (q' := 0) (fun b e => by cases e; exact HGP.out)).own (HTK.out.quote (q' := 0) (fun b e => by cases e; exact HGP.out)).new rfl
set_option maxRecDepth 100000 in
set_option maxHeartbeats 8000000 in
theorem cut_qn (N P : Nat) (v : Vw) (s : St) (c : UInt8) (w : World) (h : Sc N P v w s) (hl : s.token.length ≤ 1048576) (ht : s.token.head? = some 60) (hq : s.quote ≠ 0) (hc : c.toNat ≠ s.quote) :
    Calls Tryz.prog 45 #[.pointer (some ⟨P, 0, none⟩), .int .u8 (c.toNat : Int)] w (CtP N P v s c w) := by
  obtain ⟨i0, hi0, hz0, hz1, hz2⟩ := info_parts infoU8
  obtain ⟨va, vc, hv⟩ := own_form h.tok
  obtain ⟨vt, vo, vs, vf⟩ := v
  simp only at hv
  subst hv
  have HS := Lib.hid h
  have HN := Lib.hid h.low.2.2
  have HPT : Hid (∀ b, (Value.slice va s.token.length vc).ownBlock = some b → b ≠ P) := fun b e => (own_heap h.tok e).2.elim fun cc hc => ne_of_type hc h.box (by decide)
  obtain ⟨⟨x0, x1, x2, x3, x4, x5, x6⟩, hfr⟩ := bxS h.box
  have f00 := hfr 0
  simp only at x0 x3
  have HOWN : Hid (w.ownsRow N 5 1 (.slice va s.token.length vc) s.token.length (byteV s.token)) := h.tok
  have HZ := Lib.hid (tok_zero h.tok)
  have hcv := tok_conv h.tok
  simp only at hcv
  have c256 : c.toNat < 256 := UInt8.toNat_lt c
  have HC : Hid (Sn.cut s c = ({ s with token := s.token ++ [c], quote := s.quote }, [])) := by show _ = _; unfold Sn.cut; rw [if_neg (by rw [ht]; exact fun h => h rfl)]; rw [if_pos hq, if_neg hc]
  have eq0 : ((s.quote : Int) != 0) = true := by rw [bne_iff_ne]; omega
  have eqc : ((c.toNat : Int) == (s.quote : Int)) = false := by rw [beq_eq_false_iff_ne]; omega
  have hTG : 0 < s.token.length ∧ ∃ (g : Nat), va = some ⟨g, 0, none⟩ ∧ w.cell? ⟨g, 0, none⟩ = some (.int .u8 60) ∧ (0 : Int) < (s.token.length : Int) := by
    rcases tok_first h.tok rfl with h0 | ⟨y, r, g, h0, h1, h2⟩
    · rw [h0] at ht; cases ht
    · rw [h0] at ht
      simp only [List.head?_cons, Option.some.injEq] at ht
      subst ht
      exact ⟨by rw [h0, List.length_cons]; omega, g, h1, h2, by rw [h0, List.length_cons]; omega⟩
  clear ht hfr h hcv hq hc
  obtain ⟨e1, g, rfl, hy, e3⟩ := hTG
  go_enter Tryz.func45, Tryz.ntmps45
  go_wp2_with (first | (at_builtin; go_loud (refine wpList_append_lies _ rfl _ _ 25 rfl N 5 i0 _ 1 1 Tryz.underlying25 hi0 hz0 hz1 hz2 rfl (by decide) (.slice _ s.token.length vc) s.token.length (byteV s.token) rfl (World.ownsRow.alloc HOWN.out _) ⟨w.heap.size, 0, none⟩ 1 1 [.int .u8 (c.toNat : Int)] rfl rfl (World.news_of_block (cs := #[.int .u8 (c.toNat : Int)]) (t := 5) (fr := (0, 0)) (heap_alloc_new w _)) (by simp [Value.oneCell']) (by decide) (by unfold maxLen; omega) (by omega) (by have := HN.out; simp; omega) _ rfl ?_; intro g2 cap w2 hown hgrow hat hlt2; have HTK := Lib.hid (Tk.app (c := c) (l := s.token) HS.out (same_block _ _ _ _ _) hown hgrow (hat.imp id (fun h => by simpa using h))); have HP2 := Lib.hid ((hgrow.block P (by have := HS.out.boxlt; simp; omega) (by intro e; rw [same_block _ _ s.token.length _ vc] at e; exact (HPT.out P e.symm) rfl)).trans ((Below.heap_alloc _ _ _ HS.out.boxlt).trans HS.out.box)); have HGP := Lib.hid (tk_ne HS.out HTK.out); obtain ⟨⟨b0, b1, b2, b3, b4, b5, b6⟩, hfz⟩ := bxS HP2.out; have f0 := hfz 0; have f1 := hfz 1; clear hown hgrow hat hlt2 hfz)) | fail)
  go_ret
  exact CtP.mk HS.out HC.out HTK.out.ow HTK.out.box HTK.out.own HTK.out.new rfl
set_option maxRecDepth 100000 in
set_option maxHeartbeats 8000000 in
theorem cut_mk (N P : Nat) (v : Vw) (s : St) (c : UInt8) (w : World) (h : Sc N P v w s) (hl : s.token.length ≤ 1048576) (ht : s.token.head? = some 60) (hq : s.quote = 0) (hc : c = 39 ∨ c = 34) :
    Calls Tryz.prog 45 #[.pointer (some ⟨P, 0, none⟩), .int .u8 (c.toNat : Int)] w (CtP N P v s c w) := by
  obtain ⟨i0, hi0, hz0, hz1, hz2⟩ := info_parts infoU8
  obtain ⟨va, vc, hv⟩ := own_form h.tok
  obtain ⟨vt, vo, vs, vf⟩ := v
  simp only at hv
  subst hv
  have HS := Lib.hid h
  have HN := Lib.hid h.low.2.2
  have HPT : Hid (∀ b, (Value.slice va s.token.length vc).ownBlock = some b → b ≠ P) := fun b e => (own_heap h.tok e).2.elim fun cc hc => ne_of_type hc h.box (by decide)
  obtain ⟨⟨x0, x1, x2, x3, x4, x5, x6⟩, hfr⟩ := bxS h.box
  have f00 := hfr 0
  simp only at x0 x3
  have HOWN : Hid (w.ownsRow N 5 1 (.slice va s.token.length vc) s.token.length (byteV s.token)) := h.tok
  have HZ := Lib.hid (tok_zero h.tok)
  have hcv := tok_conv h.tok
  simp only at hcv
  have c256 : c.toNat < 256 := UInt8.toNat_lt c
  have HC : Hid (Sn.cut s c = ({ s with token := s.token ++ [c], quote := c.toNat }, [])) := by show _ = _; unfold Sn.cut; rw [if_neg (by rw [ht]; exact fun h => h rfl)]; rw [if_neg (by simp [hq]), if_pos hc]
  have eq0 : ((s.quote : Int) != 0) = false := by rw [bne_eq_false_iff_eq]; omega
  have ec : ((c.toNat : Int) == 39) = true ∨ (((c.toNat : Int) == 39) = false ∧ ((c.toNat : Int) == 34) = true) := by rcases hc with rfl | rfl; exact .inl rfl; exact .inr ⟨rfl, rfl⟩
  have hTG : 0 < s.token.length ∧ ∃ (g : Nat), va = some ⟨g, 0, none⟩ ∧ w.cell? ⟨g, 0, none⟩ = some (.int .u8 60) ∧ (0 : Int) < (s.token.length : Int) := by
    rcases tok_first h.tok rfl with h0 | ⟨y, r, g, h0, h1, h2⟩
    · rw [h0] at ht; cases ht
    · rw [h0] at ht
      simp only [List.head?_cons, Option.some.injEq] at ht
      subst ht
      exact ⟨by rw [h0, List.length_cons]; omega, g, h1, h2, by rw [h0, List.length_cons]; omega⟩
  clear ht hfr h hcv hq hc
  obtain ⟨e1, g, rfl, hy, e3⟩ := hTG
  rcases ec with e39 | ⟨e39, e34⟩
  all_goals
    go_enter Tryz.func45, Tryz.ntmps45
    go_wp2_with (first | (at_builtin; go_loud (refine wpList_append_lies _ rfl _ _ 25 rfl N 5 i0 _ 1 1 Tryz.underlying25 hi0 hz0 hz1 hz2 rfl (by decide) (.slice _ s.token.length vc) s.token.length (byteV s.token) rfl (World.ownsRow.alloc HOWN.out _) ⟨w.heap.size, 0, none⟩ 1 1 [.int .u8 (c.toNat : Int)] rfl rfl (World.news_of_block (cs := #[.int .u8 (c.toNat : Int)]) (t := 5) (fr := (0, 0)) (heap_alloc_new w _)) (by simp [Value.oneCell']) (by decide) (by unfold maxLen; omega) (by omega) (by have := HN.out; simp; omega) _ rfl ?_; intro g2 cap w2 hown hgrow hat hlt2; have HTK := Lib.hid (Tk.app (c := c) (l := s.token) HS.out (same_block _ _ _ _ _) hown hgrow (hat.imp id (fun h => by simpa using h))); have HP2 := Lib.hid ((hgrow.block P (by have := HS.out.boxlt; simp; omega) (by intro e; rw [same_block _ _ s.token.length _ vc] at e; exact (HPT.out P e.symm) rfl)).trans ((Below.heap_alloc _ _ _ HS.out.boxlt).trans HS.out.box)); have HGP := Lib.hid (tk_ne HS.out HTK.out); obtain ⟨⟨b0, b1, b2, b3, b4, b5, b6⟩, hfz⟩ := bxS HP2.out; have f0 := hfz 0; have f1 := hfz 1; clear hown hgrow hat hlt2 hfz)) | fail)
    go_ret
    exact CtP.mk HS.out HC.out (HTK.out.quote (q' := c.toNat) (fun b e => by cases e; exact HGP.out)).ow (HTK.out.quote (q' := c.toNat) (fun b e => by cases e; exact HGP.out)).box (HTK.out.quote (q' := c.toNat) (fun b e => by cases e; exact HGP.out)).own (HTK.out.quote (q' := c.toNat) (fun b e => by cases e; exact HGP.out)).new rfl
set_option maxRecDepth 100000 in
set_option maxHeartbeats 8000000 in
theorem cut_gt (N P : Nat) (v : Vw) (s : St) (c : UInt8) (w : World) (h : Sc N P v w s) (hl : s.token.length ≤ 1048576) (ht : s.token.head? = some 60) (hq : s.quote = 0) (hc : c = 62) :
    Calls Tryz.prog 45 #[.pointer (some ⟨P, 0, none⟩), .int .u8 (c.toNat : Int)] w (CtP N P v s c w) := by
  obtain ⟨i0, hi0, hz0, hz1, hz2⟩ := info_parts infoU8
  obtain ⟨va, vc, hv⟩ := own_form h.tok
  obtain ⟨vt, vo, vs, vf⟩ := v
  simp only at hv
  subst hv
  have HS := Lib.hid h
  have HN := Lib.hid h.low.2.2
  have HPT : Hid (∀ b, (Value.slice va s.token.length vc).ownBlock = some b → b ≠ P) := fun b e => (own_heap h.tok e).2.elim fun cc hc => ne_of_type hc h.box (by decide)
  obtain ⟨⟨x0, x1, x2, x3, x4, x5, x6⟩, hfr⟩ := bxS h.box
  have f00 := hfr 0
  simp only at x0 x3
  have HOWN : Hid (w.ownsRow N 5 1 (.slice va s.token.length vc) s.token.length (byteV s.token)) := h.tok
  have HZ := Lib.hid (tok_zero h.tok)
  have hcv := tok_conv h.tok
  simp only at hcv
  have c256 : c.toNat < 256 := UInt8.toNat_lt c
  have HC : Hid (Sn.cut s c = ({ s with token := [], quote := s.quote }, s.token ++ [c])) := by show _ = _; unfold Sn.cut; rw [if_neg (by rw [ht]; exact fun h => h rfl)]; subst hc; rw [if_neg (by simp [hq]), if_neg (by decide), if_pos rfl]
  have eq0 : ((s.quote : Int) != 0) = false := by rw [bne_eq_false_iff_eq]; omega
  have e39 : ((c.toNat : Int) == 39) = false := by subst hc; rfl
  have e34 : ((c.toNat : Int) == 34) = false := by subst hc; rfl
  have e62 : ((c.toNat : Int) == 62) = true := by subst hc; rfl
  have hTG : 0 < s.token.length ∧ ∃ (g : Nat), va = some ⟨g, 0, none⟩ ∧ w.cell? ⟨g, 0, none⟩ = some (.int .u8 60) ∧ (0 : Int) < (s.token.length : Int) := by
    rcases tok_first h.tok rfl with h0 | ⟨y, r, g, h0, h1, h2⟩
    · rw [h0] at ht; cases ht
    · rw [h0] at ht
      simp only [List.head?_cons, Option.some.injEq] at ht
      subst ht
      exact ⟨by rw [h0, List.length_cons]; omega, g, h1, h2, by rw [h0, List.length_cons]; omega⟩
  clear ht hfr h hcv hq hc
  obtain ⟨e1, g, rfl, hy, e3⟩ := hTG
  go_enter Tryz.func45, Tryz.ntmps45
  go_wp2_with (first | (at_builtin; go_loud (refine wpList_append_lies _ rfl _ _ 25 rfl N 5 i0 _ 1 1 Tryz.underlying25 hi0 hz0 hz1 hz2 rfl (by decide) (.slice _ s.token.length vc) s.token.length (byteV s.token) rfl (World.ownsRow.alloc HOWN.out _) ⟨w.heap.size, 0, none⟩ 1 1 [.int .u8 (c.toNat : Int)] rfl rfl (World.news_of_block (cs := #[.int .u8 (c.toNat : Int)]) (t := 5) (fr := (0, 0)) (heap_alloc_new w _)) (by simp [Value.oneCell']) (by decide) (by unfold maxLen; omega) (by omega) (by have := HN.out; simp; omega) _ rfl ?_; intro g2 cap w2 hown hgrow hat hlt2; have HTK := Lib.hid (Tk.app (c := c) (l := s.token) HS.out (same_block _ _ _ _ _) hown hgrow (hat.imp id (fun h => by simpa using h))); have HP2 := Lib.hid ((hgrow.block P (by have := HS.out.boxlt; simp; omega) (by intro e; rw [same_block _ _ s.token.length _ vc] at e; exact (HPT.out P e.symm) rfl)).trans ((Below.heap_alloc _ _ _ HS.out.boxlt).trans HS.out.box)); have HGP := Lib.hid (tk_ne HS.out HTK.out); obtain ⟨⟨b0, b1, b2, b3, b4, b5, b6⟩, hfz⟩ := bxS HP2.out; have f0 := hfz 0; have f1 := hfz 1; have hcv2 := tok_conv HTK.out.own; clear hown hgrow hat hlt2 hfz)) | fail)
  go_ret
  exact CtP.mk HS.out HC.out (HTK.out.empty (fun b e => by cases e; exact HGP.out) (by simp)).ow (HTK.out.empty (fun b e => by cases e; exact HGP.out) (by simp)).box (HTK.out.empty (fun b e => by cases e; exact HGP.out) (by simp)).own (HTK.out.empty (fun b e => by cases e; exact HGP.out) (by simp)).new rfl
set_option maxRecDepth 100000 in
set_option maxHeartbeats 8000000 in
theorem cut_on (N P : Nat) (v : Vw) (s : St) (c : UInt8) (w : World) (h : Sc N P v w s) (hl : s.token.length ≤ 1048576) (ht : s.token.head? = some 60) (hq : s.quote = 0) (h39 : c ≠ 39) (h34 : c ≠ 34) (h62 : c ≠ 62) :
    Calls Tryz.prog 45 #[.pointer (some ⟨P, 0, none⟩), .int .u8 (c.toNat : Int)] w (CtP N P v s c w) := by
  obtain ⟨i0, hi0, hz0, hz1, hz2⟩ := info_parts infoU8
  obtain ⟨va, vc, hv⟩ := own_form h.tok
  obtain ⟨vt, vo, vs, vf⟩ := v
  simp only at hv
  subst hv
  have HS := Lib.hid h
  have HN := Lib.hid h.low.2.2
  have HPT : Hid (∀ b, (Value.slice va s.token.length vc).ownBlock = some b → b ≠ P) := fun b e => (own_heap h.tok e).2.elim fun cc hc => ne_of_type hc h.box (by decide)
  obtain ⟨⟨x0, x1, x2, x3, x4, x5, x6⟩, hfr⟩ := bxS h.box
  have f00 := hfr 0
  simp only at x0 x3
  have HOWN : Hid (w.ownsRow N 5 1 (.slice va s.token.length vc) s.token.length (byteV s.token)) := h.tok
  have HZ := Lib.hid (tok_zero h.tok)
  have hcv := tok_conv h.tok
  simp only at hcv
  have c256 : c.toNat < 256 := UInt8.toNat_lt c
  have HC : Hid (Sn.cut s c = ({ s with token := s.token ++ [c], quote := s.quote }, [])) := by show _ = _; unfold Sn.cut; rw [if_neg (by rw [ht]; exact fun h => h rfl)]; rw [if_neg (by simp [hq]), if_neg (by rintro (h | h); exact h39 h; exact h34 h), if_neg h62]
  have eq0 : ((s.quote : Int) != 0) = false := by rw [bne_eq_false_iff_eq]; omega
  have e39 : ((c.toNat : Int) == 39) = false := by rw [beq_eq_false_iff_ne]; intro e; exact h39 (UInt8.toNat_inj.1 (by simpa using (by omega : c.toNat = 39)))
  have e34 : ((c.toNat : Int) == 34) = false := by rw [beq_eq_false_iff_ne]; intro e; exact h34 (UInt8.toNat_inj.1 (by simpa using (by omega : c.toNat = 34)))
  have e62 : ((c.toNat : Int) == 62) = false := by rw [beq_eq_false_iff_ne]; intro e; exact h62 (UInt8.toNat_inj.1 (by simpa using (by omega : c.toNat = 62)))
  have hTG : 0 < s.token.length ∧ ∃ (g : Nat), va = some ⟨g, 0, none⟩ ∧ w.cell? ⟨g, 0, none⟩ = some (.int .u8 60) ∧ (0 : Int) < (s.token.length : Int) := by
    rcases tok_first h.tok rfl with h0 | ⟨y, r, g, h0, h1, h2⟩
    · rw [h0] at ht; cases ht
    · rw [h0] at ht
      simp only [List.head?_cons, Option.some.injEq] at ht
      subst ht
      exact ⟨by rw [h0, List.length_cons]; omega, g, h1, h2, by rw [h0, List.length_cons]; omega⟩
  clear ht hfr h hcv hq h39 h34 h62
  obtain ⟨e1, g, rfl, hy, e3⟩ := hTG
  go_enter Tryz.func45, Tryz.ntmps45
  go_wp2_with (first | (at_builtin; go_loud (refine wpList_append_lies _ rfl _ _ 25 rfl N 5 i0 _ 1 1 Tryz.underlying25 hi0 hz0 hz1 hz2 rfl (by decide) (.slice _ s.token.length vc) s.token.length (byteV s.token) rfl (World.ownsRow.alloc HOWN.out _) ⟨w.heap.size, 0, none⟩ 1 1 [.int .u8 (c.toNat : Int)] rfl rfl (World.news_of_block (cs := #[.int .u8 (c.toNat : Int)]) (t := 5) (fr := (0, 0)) (heap_alloc_new w _)) (by simp [Value.oneCell']) (by decide) (by unfold maxLen; omega) (by omega) (by have := HN.out; simp; omega) _ rfl ?_; intro g2 cap w2 hown hgrow hat hlt2; have HTK := Lib.hid (Tk.app (c := c) (l := s.token) HS.out (same_block _ _ _ _ _) hown hgrow (hat.imp id (fun h => by simpa using h))); have HP2 := Lib.hid ((hgrow.block P (by have := HS.out.boxlt; simp; omega) (by intro e; rw [same_block _ _ s.token.length _ vc] at e; exact (HPT.out P e.symm) rfl)).trans ((Below.heap_alloc _ _ _ HS.out.boxlt).trans HS.out.box)); have HGP := Lib.hid (tk_ne HS.out HTK.out); obtain ⟨⟨b0, b1, b2, b3, b4, b5, b6⟩, hfz⟩ := bxS HP2.out; have f0 := hfz 0; have f1 := hfz 1; clear hown hgrow hat hlt2 hfz)) | fail)
  go_ret
  exact CtP.mk HS.out HC.out HTK.out.ow HTK.out.box HTK.out.own HTK.out.new rfl
theorem cut_any6 (N P : Nat) (v : Vw) (s : St) (c : UInt8) (w : World) (h : Sc N P v w s) (hl : s.token.length ≤ 1048576) :
    Calls Tryz.prog 45 #[.pointer (some ⟨P, 0, none⟩), .int .u8 (c.toNat : Int)] w (CtP N P v s c w) := by
  by_cases ht : s.token.head? = some 60
  · by_cases hq : s.quote = 0
    · by_cases hm : c = 39 ∨ c = 34
      · exact cut_mk N P v s c w h hl ht hq hm
      · by_cases hg : c = 62
        · exact cut_gt N P v s c w h hl ht hq hg
        · exact cut_on N P v s c w h hl ht hq (fun e => hm (.inl e)) (fun e => hm (.inr e)) hg
    · by_cases hc : c.toNat = s.quote
      · exact cut_qe N P v s c w h hl ht hq hc
      · exact cut_qn N P v s c w h hl ht hq hc
  · by_cases hc : c = 60
    · exact cut_lt N P v s c w h hl ht hc
    · exact cut_ch N P v s c w h hl ht hc
end Go.Proofs.YtolnpfcncmcacaaGreatDoor

/- Contracts of (*Scanner).inStanza, innermost, Depth, Err, New, fail, characters: what a scanner tells of itself; its end; characters. Condition: texts have at most 1048576 bytes. -/
namespace Go.Proofs.YtolnpfcncmcacaaGreatDoor
open Go.RowKit Go.Lib Go.Shelf Tg Sn

theorem Sc.opnIs {N P : Nat} {v : Vw} {w : World} {s : St} (h : Sc N P v w s) : ∃ a c, v.opn = .slice a s.os.length c := own_form h.opn
set_option maxRecDepth 100000 in
set_option maxHeartbeats 2000000 in
theorem inStanza_any (N P : Nat) (v : Vw) (s : St) (w : World) (h : Sc N P v w s) (b : Bool) (hb : decide (1 < s.os.length) = b) :
    Calls Tryz.prog 70 #[.pointer (some ⟨P, 0, none⟩)] w fun e w' => e = .returned (.bool b) ∧ w = w' := by
  obtain ⟨a, c, hv⟩ := h.opnIs
  obtain ⟨⟨x0, x1, x2, x3, x4, x5, x6⟩, _⟩ := bxS h.box
  rw [hv] at x3
  have e1 : decide ((1 : Int) < (s.os.length : Int)) = b := by rw [← hb, decide_eq_decide]; omega
  clear h x0 x1 x2 x4 x5 x6 hv hb
  generalize s.os.length = n at x3 e1
  cases b <;> (
    go_enter Tryz.func70, Tryz.ntmps70
    go_wp2_with fail
    go_ret
    exact ⟨rfl, rfl⟩)
set_option maxRecDepth 100000 in
theorem depth_any (P : Nat) (a : Option Addr) (n c : Nat) (w : World) (h : w.cell? ⟨P, 3, none⟩ = some (.slice a n c)) :
    Calls Tryz.prog 13 #[.pointer (some ⟨P, 0, none⟩)] w fun e w' => e = .returned (.int .i64 n) ∧ w = w' := by
  go_enter Tryz.func13, Tryz.ntmps13
  go_wp2_with fail
  go_ret
  exact ⟨rfl, rfl⟩
set_option maxRecDepth 100000 in
theorem err_any (P : Nat) (n : Int) (w : World) (h : w.cell? ⟨P, 6, none⟩ = some (.int .i64 n)) :
    Calls Tryz.prog 12 #[.pointer (some ⟨P, 0, none⟩)] w fun e w' => e = .returned (.int .i64 n) ∧ w = w' := by
  go_enter Tryz.func12, Tryz.ntmps12
  go_wp2_with fail
  go_ret
  exact ⟨rfl, rfl⟩
theorem err_nil (w : World) : Calls Tryz.prog 12 #[.pointer none] w fun e w' => e = .returned (.int .i64 7) ∧ w = w' := by
  go_enter Tryz.func12, Tryz.ntmps12
  go_wp2_with fail
  go_ret
  exact ⟨rfl, rfl⟩
theorem depth_nil (w : World) : Calls Tryz.prog 13 #[.pointer none] w fun e w' => e = .returned (.int .i64 0) ∧ w = w' := by
  go_enter Tryz.func13, Tryz.ntmps13
  go_wp2_with fail
  go_ret
  exact ⟨rfl, rfl⟩
def Vw0 : Vw := ⟨.slice none 0 0, .slice none 0 0, [], fun _ => False⟩
/-- A scanner to which nothing was fed. -/
theorem sc_new {N P : Nat} {w : World} (h : w.heap[P]? = some (.cells (scells Vw0 St0) 62 (0, 0))) (hG : Gd w) (h1 : 3 < N) (h2 : 3 ≠ P) (h3 : N ≤ w.heap.size) : Sc N P Vw0 w St0 :=
  ⟨h, World.ownsRow_nil _ _ _ _, World.ownsRow_nil _ _ _ _, rfl, (fun i hi => by cases hi), (fun i j _ hj => by cases hj), hG, ⟨h1, h2, h3⟩, fun b hb => hb.elim⟩
theorem new_any (w : World) : Calls Tryz.prog 7 #[] w fun e w' => e = .returned (.pointer (some ⟨w.heap.size, 0, none⟩)) ∧ w' = w.alloc (.cells (scells Vw0 St0) 62) := by
  go_enter Tryz.func7, Tryz.ntmps7
  go_wp2_with fail
  go_ret
  exact ⟨rfl, rfl⟩

/-! ### The innermost element -/
/-- The open elements but the last, and the last. -/
structure Lst (N P : Nat) (v : Vw) (w : World) (s : St) (ini : List Sn.Op) (o : Sn.Op) (vi : List Ov) (x : Ov) (g cap : Nat) : Prop where
  os : s.os = ini ++ [o]
  vs : v.os = vi ++ [x]
  len : vi.length = ini.length
  opn : v.opn = .slice (some ⟨g, 0, none⟩) (ini.length + 1) cap
  row : w.ownsRow N 155 7 (.slice (some ⟨g, 0, none⟩) (ini.length + 1) cap) (ini.length + 1) (cellsO ini vi ++ cells1 o x)
theorem Sc.last {N P : Nat} {v : Vw} {w : World} {s : St} (h : Sc N P v w s) (hn : s.os ≠ []) : ∃ ini o vi x g cap, Lst N P v w s ini o vi x g cap := by
  obtain ⟨ini, o, ho⟩ : ∃ ini o, s.os = ini ++ [o] := ⟨s.os.dropLast, s.os.getLast hn, (List.dropLast_concat_getLast hn).symm⟩
  have hl := h.len
  have hvn : v.os ≠ [] := by intro e; rw [e, ho] at hl; simp at hl
  obtain ⟨vi, x, hx⟩ : ∃ vi x, v.os = vi ++ [x] := ⟨v.os.dropLast, v.os.getLast hvn, (List.dropLast_concat_getLast hvn).symm⟩
  have hlen : vi.length = ini.length := by rw [ho, hx] at hl; simpa using hl
  have hr := h.opn
  obtain ⟨g, cap, hg, _, _⟩ := hr.form (by rw [ho]; simp)
  rw [hg, ho, hx, cellsO_append hlen, List.length_append, List.length_singleton] at hr
  have e1 : cellsO [o] [x] = cells1 o x := by simp [cellsO]
  rw [e1] at hr
  refine ⟨ini, o, vi, x, g, cap, ho, hx, hlen, ?_, hr⟩
  rw [hg, ho]; simp
theorem Lst.at7 {N P : Nat} {v : Vw} {w : World} {s : St} {ini : List Sn.Op} {o : Sn.Op} {vi : List Ov} {x : Ov} {g cap : Nat} (h : Lst N P v w s ini o vi x g cap) (j : Nat) (hj : j < 7) :
    w.cell? ⟨g, ini.length * 7 + j, none⟩ = (cells1 o x)[j]? ∧ w.frozen? ⟨g, ini.length * 7 + j, none⟩ = false := by
  refine ⟨?_, h.row.frozenAt _⟩
  rw [h.row.cellAt _ (by omega), List.getElem?_append_right (by rw [cellsO_len h.len]; omega), cellsO_len h.len]
  congr 1
  omega
set_option maxRecDepth 100000 in
set_option maxHeartbeats 2000000 in
theorem innermost_any (P g n c : Nat) (w : World) (h : w.cell? ⟨P, 3, none⟩ = some (.slice (some ⟨g, 0, none⟩) (n + 1) c)) (hn : n < 1048576) :
    Calls Tryz.prog 103 #[.pointer (some ⟨P, 0, none⟩)] w fun e w' => e = .returned (.pointer (some ⟨g, n * 7, none⟩)) ∧ Below w.heap.size w w' := by
  have g1 : IntKind.i64.wrap (((n + 1 : Nat) : Int) - 1) = (n : Int) := by rw [IntWalk.i64_in _ (by omega)]; omega
  have g2 : ((n : Int)).toNat = n := by omega
  have g3 : (0 : Int) ≤ (n : Int) := by omega
  have g4 : (n : Int) < ((n + 1 : Nat) : Int) := by omega
  go_enter Tryz.func103, Tryz.ntmps103
  go_wp2_with fail
  go_quiet (fail)
  go_wp2_with fail
  go_ret
  exact ⟨rfl, bel_drew _ _⟩
end Go.Proofs.YtolnpfcncmcacaaGreatDoor

/- Contracts of (*Scanner).spaceOf and choose: the namespace of a prefix; the attributes that are told. Condition: texts have at most 1048576 bytes. -/
namespace Go.Proofs.YtolnpfcncmcacaaGreatDoor
open Go.RowKit Go.Lib Go.Shelf Tg Sn

theorem cellsO_at : ∀ {os : List Sn.Op} {vs : List Ov} {m : Nat} (h : m < os.length) (h2 : m < vs.length) (j : Nat), j < 7 → (cellsO os vs)[m * 7 + j]? = (cells1 os[m] vs[m])[j]?
  | o :: os, v :: vs, 0, _, _, j, hj => by
    simp only [cellsO, Nat.zero_mul, Nat.zero_add, List.getElem_cons_zero]
    rw [List.getElem?_append_left (by simp [cells1]; omega)]
  | o :: os, v :: vs, m + 1, h, h2, j, hj => by
    simp only [cellsO, List.getElem_cons_succ]
    rw [List.getElem?_append_right (by simp [cells1]; omega), show (m + 1) * 7 + j - (cells1 o v).length = m * 7 + j by simp [cells1]; omega]
    exact cellsO_at (by simpa using h) (by simpa using h2) j hj
/-- A cell of an open element. -/
theorem Sc.cellAt {N P : Nat} {v : Vw} {w : World} {s : St} (h : Sc N P v w s) {m : Nat} (hm : m < s.os.length) (hm2 : m < v.os.length) : ∃ g cap, v.opn = .slice (some ⟨g, 0, none⟩) s.os.length cap ∧ ∀ j, j < 7 → w.cell? ⟨g, m * 7 + j, none⟩ = (cells1 s.os[m] v.os[m])[j]? := by
  obtain ⟨g, cap, hg, _, _⟩ := h.opn.form (by omega)
  refine ⟨g, cap, hg, fun j hj => ?_⟩
  have hr := h.opn
  rw [hg] at hr
  rw [hr.cellAt _ (by omega), cellsO_at hm hm2 j hj]
theorem space_step {os : List Sn.Op} {p : B8} {m : Nat} (hm : m < os.length) : (os.take (m + 1)).reverse.findSome? (fun o => find o.decl p) = match find os[m].decl p with | some x => some x | none => (os.take m).reverse.findSome? (fun o => find o.decl p) := by
  rw [List.take_succ_eq_append_getElem hm, List.reverse_append]
  simp only [List.reverse_singleton, List.singleton_append, List.findSome?_cons]
  cases find os[m].decl p <;> rfl
/-- What is left to be looked at. -/
def Sk (own : List At) (os : List Sn.Op) (p : B8) (k : Nat) (o : Option ByteArray) : Prop := spaceOf own os p = match o with | some x => some x | none => (os.take k).reverse.findSome? (fun o => find o.decl p)
theorem Sk.start (own : List At) (os : List Sn.Op) (p : B8) : Sk own os p os.length (find own p) := by
  unfold Sk spaceOf
  cases find own p with
  | some x => rfl
  | none => simp
theorem Sk.step {own : List At} {os : List Sn.Op} {p : B8} {m : Nat} (h : Sk own os p (m + 1) none) (hm : m < os.length) : Sk own os p m (find os[m].decl p) := by
  unfold Sk at h ⊢
  rw [h]
  simp only
  rw [space_step hm]
theorem Sk.fin {own : List At} {os : List Sn.Op} {p : B8} {k : Nat} {o : Option ByteArray} (h : Sk own os p k o) (hk : k = 0 ∨ o.isSome = true) : spaceOf own os p = o := by
  unfold Sk at h
  rw [h]
  cases o with
  | some x => rfl
  | none => rcases hk with rfl | hk
            · simp
            · cases hk
set_option maxRecDepth 100000 in
set_option maxHeartbeats 8000000 in
theorem spaceOf_any (N P : Nat) (v : Vw) (s : St) (own : List At) (p : ByteArray) (a : Option Addr) (c : Nat) (w : World) (h : Sc N P v w s) (hol : s.os.length ≤ 1048576) (hl : own.length ≤ 1048576) (hA : AtS Any8 w a own) :
    Calls Tryz.prog 146 #[.pointer (some ⟨P, 0, none⟩), .agg #[.slice a own.length c], .string p] w fun e w' => e = .returned (optB (spaceOf own s.os p.data.toList)) ∧ Below w.heap.size w w' := by
  have HS := Lib.hid h
  have HB0 : Hid (Below w.heap.size w (w.alloc (.cells #[.slice a own.length c] 153))) := (Below.refl _ _).alloc (Nat.le_refl _) _
  have FA := Lib.hid (find_any own p a c (w.alloc (.cells #[.slice a own.length c] 153)) hl (hA.below HB0.out))
  have HX0 := Lib.hid (box_new w #[.slice a own.length c] 153)
  have HK0 := Lib.hid (Sk.start own s.os p.data.toList)
  have FG := Lib.hid (fun (d : List At) (a : Option Addr) (c : Nat) W (hl : d.length ≤ 1048576) hA => find_any d p a c W hl hA)
  obtain ⟨va, vc, hv⟩ := h.opnIs
  have g1 : IntKind.i64.wrap ((s.os.length : Int) - 1) = (s.os.length : Int) - 1 := IntWalk.i64_in _ (by omega)
  have HV := Lib.hid hv
  obtain ⟨⟨_, _, _, x3, _, _, _⟩, _⟩ := bxS h.box
  rw [hv] at x3
  have x3b := cell_alloc x3 (.cells #[.slice a own.length c] 153)
  unfold optB at FA FG ⊢
  clear h hA hv x3
  go_enter Tryz.func146, Tryz.ntmps146
  go_wp2_with fail
  refine FA.out.mono ?_
  rintro r w1 ⟨rfl, hb⟩
  have HB1 := Lib.hid (HB0.out.trans (hb.mono HB0.out.size))
  have y3 := (hb.cell (World.block_lt_of_cell? _ _ x3b)).trans x3b
  clear hb FA x3b HB0 HX0
  go_wp2_with fail
  clear y3 g1
  go_loopw [8, 9, 10] (fun sp ok i wr => ∃ (k : Nat) (o : Option ByteArray), i = .int .i64 ((k : Int) - 1) ∧ k ≤ s.os.length ∧ sp = .string (o.getD ⟨#[]⟩) ∧ ok = .bool o.isSome ∧ Hid (Sk own s.os p.data.toList k o) ∧ Hid (Below w.heap.size w wr)) (fun _ _ i _ => (RowKit.intOf i + 1).toNat)
  case atStart => exact ⟨s.os.length, _, rfl, Nat.le_refl _, rfl, rfl, HK0.out, HB1.out⟩
  case round =>
    obtain ⟨k, o, rfl, hk, rfl, rfl, HK, HB⟩ := hrel
    clear HK0 HB1
    cases o with
    | some x =>
      have E := Lib.hid (HK.out.fin (.inr rfl))
      simp only [Option.getD_some, Option.isSome_some]
      by_cases hk0 : k = 0
      · subst hk0
        go_wp2_with fail
        go_ret2
        exact ⟨by rw [E.out]; rfl, HB.out⟩
      · have hge : (0 : Int) ≤ (k : Int) - 1 := by omega
        have hge2 : (1 : Int) ≤ (k : Int) := by omega
        clear hk0
        go_wp2_with fail
        go_ret2
        exact ⟨by rw [E.out]; rfl, HB.out⟩
    | none =>
      simp only [Option.getD_none, Option.isSome_none]
      cases k with
      | zero =>
        have E := Lib.hid (HK.out.fin (.inl rfl))
        go_wp2_with fail
        go_ret2
        exact ⟨by rw [E.out]; rfl, HB.out⟩
      | succ m =>
        have hm : m < s.os.length := by omega
        have HSW := HS.out.below HB.out
        have hm2 : m < v.os.length := by rw [HSW.len]; exact hm
        obtain ⟨g, cap, hg, hcell⟩ := HSW.cellAt hm hm2
        obtain ⟨⟨_, _, _, x3, _, _, _⟩, _⟩ := bxS HSW.box
        rw [hg] at x3
        obtain ⟨da, dc, hd, _, _, hdA⟩ := (HSW.part m hm hm2).d
        have hdl := (HSW.part m hm hm2).f.2.1
        have c0 := hcell 0 (by decide)
        simp only [cells1, List.getElem?_cons_zero, Nat.add_zero] at c0
        rw [hd] at c0
        have F := Lib.hid (FG.out _ da dc wr hdl (hdA.weak (fun _ _ _ => trivial)))
        have HK2 := Lib.hid (HK.out.step hm)
        generalize find s.os[m].decl p.data.toList = o2 at F HK2
        generalize s.os[m].decl.length = dl at c0 F
        have g2 : (((m + 1 : Nat) : Int) - 1) = (m : Int) := by omega
        have g3 : ((m : Int)).toNat = m := by omega
        have g4 : (0 : Int) ≤ (m : Int) := by omega
        have g5 : (m : Int) < (s.os.length : Int) := by omega
        rw [g2]
        clear hd hdA hdl hcell hg g2 hm2 HSW
        go_wp2_with fail
        refine F.out.mono ?_
        rintro r w2 ⟨rfl, hb⟩
        have HB2 := Lib.hid (HB.out.trans (hb.mono HB.out.size))
        clear hb F c0 x3
        go_wp2_with fail
        go_roundw
        case rel => exact ⟨m, o2, rfl, by omega, rfl, rfl, HK2.out, HB2.out⟩
        case measure => simp [RowKit.intOf]

/-! ### choose -/
theorem choose_decl {own : List At} {os : List Sn.Op} {a : At} {r : List At} (h : (dpre a.1.data.toList).isSome = true) : Sn.choose own os (a :: r) = Sn.choose own os r := by rw [Sn.choose, if_pos h]
theorem choose_keep {own : List At} {os : List Sn.Op} {a : At} {r : List At} (h : (dpre a.1.data.toList).isSome = false) (h2 : pre a.1.data.toList = [] ∨ a.1.data.toList = xlang) : Sn.choose own os (a :: r) = (Sn.choose own os r).map (a :: ·) := by
  rw [Sn.choose, if_neg (by rw [h]; exact Bool.false_ne_true), if_pos h2]
theorem choose_xml {own : List At} {os : List Sn.Op} {a : At} {r : List At} (h : (dpre a.1.data.toList).isSome = false) (h2 : ¬ (pre a.1.data.toList = [] ∨ a.1.data.toList = xlang)) (h3 : pre a.1.data.toList = xml) : Sn.choose own os (a :: r) = Sn.choose own os r := by
  rw [Sn.choose, if_neg (by rw [h]; exact Bool.false_ne_true), if_neg h2, if_pos h3]
theorem choose_other {own : List At} {os : List Sn.Op} {a : At} {r : List At} (h : (dpre a.1.data.toList).isSome = false) (h2 : ¬ (pre a.1.data.toList = [] ∨ a.1.data.toList = xlang)) (h3 : pre a.1.data.toList ≠ xml) : Sn.choose own os (a :: r) = if (spaceOf own os (pre a.1.data.toList)).isSome then Sn.choose own os r else none := by
  rw [Sn.choose, if_neg (by rw [h]; exact Bool.false_ne_true), if_neg h2, if_neg h3]
theorem choose_len {own : List At} {os : List Sn.Op} : ∀ {l d : List At}, Sn.choose own os l = some d → d.length ≤ l.length ∧ ∀ a ∈ d, a ∈ l
  | [], d, h => by rw [Sn.choose] at h; cases h; exact ⟨Nat.le_refl _, fun a ha => (by cases ha)⟩
  | a :: r, d, h => by
    have up : Sn.choose own os r = some d → d.length ≤ (a :: r).length ∧ ∀ b ∈ d, b ∈ a :: r := fun h => by
      obtain ⟨h1, h2⟩ := choose_len h
      exact ⟨by simp; omega, fun b hb => List.mem_cons_of_mem _ (h2 b hb)⟩
    by_cases h1 : (dpre a.1.data.toList).isSome = true
    · rw [choose_decl h1] at h; exact up h
    · have h1 : (dpre a.1.data.toList).isSome = false := by simpa using h1
      by_cases h2 : pre a.1.data.toList = [] ∨ a.1.data.toList = xlang
      · rw [choose_keep h1 h2] at h
        cases hr : Sn.choose own os r with
        | none => rw [hr] at h; cases h
        | some m =>
          rw [hr] at h
          simp only [Option.map_some, Option.some.injEq] at h
          subst h
          obtain ⟨q1, q2⟩ := choose_len hr
          refine ⟨by simpa using q1, fun b hb => ?_⟩
          simp only [List.mem_cons] at hb ⊢
          rcases hb with hb | hb
          · exact .inl hb
          · exact .inr (q2 b hb)
      · by_cases h3 : pre a.1.data.toList = xml
        · rw [choose_xml h1 h2 h3] at h; exact up h
        · rw [choose_other h1 h2 h3] at h
          split at h
          · exact up h
          · cases h
/-- What choose answers. -/
def ChP (o : Option (List At)) (w : World) (e : Ending) (w' : World) : Prop := ∃ v, e = .returned (.tuple #[v, .bool o.isSome]) ∧ SlA (fun b => w.heap.size ≤ b) w' v (o.getD []) ∧ Below w.heap.size w w'
theorem ChP.mk {o : Option (List At)} {w w' : World} {e : Ending} (v : Value) (he : e = .returned (.tuple #[v, .bool o.isSome])) (hs : SlA (fun b => w.heap.size ≤ b) w' v (o.getD [])) (hb : Below w.heap.size w w') : ChP o w e w' := ⟨v, he, hs, hb⟩
/-- What its loop keeps. -/
structure Cl (w : World) (own : List At) (os : List Sn.Op) (l out : List At) (k : Nat) (v : Value) (wr : World) : Prop where
  row : wr.ownsRow w.heap.size 81 2 v out.length (cellsA out)
  len : out.length ≤ k
  bel : Below w.heap.size w wr
  q : Sn.choose own os l = (Sn.choose own os (l.drop k)).map (out ++ ·)
theorem Cl.call {w : World} {own : List At} {os : List Sn.Op} {l out : List At} {k : Nat} {v : Value} {wr w' : World} (h : Cl w own os l out k v wr) (hb : Below wr.heap.size wr w') : Cl w own os l out k v w' :=
  ⟨h.row.kept (row := none) ⟨hb.os, hb.tape, hb.output, hb.size, fun b hlt _ => hb.block b hlt⟩ (by cases v.ownBlock <;> simp), h.len, h.bel.trans (hb.mono h.bel.size), h.q⟩
theorem Cl.skip {w : World} {own : List At} {os : List Sn.Op} {l out : List At} {k : Nat} {v : Value} {wr : World} (h : Cl w own os l out k v wr) (hq : Sn.choose own os (l.drop k) = Sn.choose own os (l.drop (k + 1))) : Cl w own os l out (k + 1) v wr :=
  ⟨h.row, Nat.le_succ_of_le h.len, h.bel, h.q.trans (by rw [hq])⟩
theorem Cl.more {w : World} {own : List At} {os : List Sn.Op} {l out : List At} {k : Nat} {v : Value} {wr w' : World} {a : At} (h : Cl w own os l out k v wr) (hq : Sn.choose own os (l.drop k) = (Sn.choose own os (l.drop (k + 1))).map (a :: ·)) {g cap : Nat}
    (hown : w'.ownsRow w.heap.size 81 2 (.slice (some ⟨g, 0, none⟩) (out.length + 1) cap) (out.length + 1) (cellsA out ++ [.string a.1, .string a.2])) (hb : Below w.heap.size w w') :
    Cl w own os l (out ++ [a]) (k + 1) (.slice (some ⟨g, 0, none⟩) (out.length + 1) cap) w' := by
  refine ⟨?_, by have := h.len; simp; omega, hb, ?_⟩
  · rw [cellsA_append, cellsA_one, List.length_append]; exact hown
  · rw [h.q, hq, Option.map_map]
    congr 1
    funext m
    simp
end Go.Proofs.YtolnpfcncmcacaaGreatDoor

/- The contract of (*Scanner).choose, walked: the attributes that are told. Condition: texts have at most 1048576 bytes. -/
namespace Go.Proofs.YtolnpfcncmcacaaGreatDoor
open Go.RowKit Go.Lib Go.Shelf Tg Sn

theorem pre_len (l : B8) : (pre l).length ≤ l.length := by
  unfold pre
  split
  · simp
  · rename_i p r hc
    have := cut1_len hc
    omega
set_option maxRecDepth 100000 in
set_option maxHeartbeats 8000000 in
theorem choose_any (N P : Nat) (v : Vw) (s : St) (own l : List At) (oa : Option Addr) (oc : Nat) (a : Option Addr) (c : Nat) (w : World) (h : Sc N P v w s) (hsl : s.os.length ≤ 1048576) (hol : own.length ≤ 1048576) (hO : AtS Any8 w oa own)
    (hl : l.length ≤ 1048576) (hf : Fit 1048576 l) (hA : AtS Any8 w a l) :
    Calls Tryz.prog 147 #[.pointer (some ⟨P, 0, none⟩), .agg #[.slice oa own.length oc], .slice a l.length c] w (ChP (Sn.choose own s.os l) w) := by
  obtain ⟨i0, hi0, hz0, hz1, hz2⟩ := info_parts infoAttr
  have HA := Lib.hid hA
  have HF := Lib.hid hf
  have HB0 : Hid (Below w.heap.size w (w.alloc (.cells #[.slice oa own.length oc] 153))) := (Below.refl _ _).alloc (Nat.le_refl _) _
  have HX0 := Lib.hid (box_new w #[.slice oa own.length oc] 153)
  have H0 : Hid (Cl w own s.os l [] 0 (.slice none 0 0) (w.alloc (.cells #[.slice oa own.length oc] 153))) := ⟨World.ownsRow_nil _ _ _ _, Nat.le_refl _, HB0.out, by cases h : Sn.choose own s.os (l.drop 0) <;> simp_all⟩
  have SP := Lib.hid (fun (p : ByteArray) W (hb : Below w.heap.size w W) => spaceOf_any N P v s own p oa oc W (h.below hb) hsl hol (hO.below hb))
  have DP := Lib.hid (fun (x : ByteArray) W hs => dpre_any x W hs)
  have PA := Lib.hid (fun (x : ByteArray) W hs => parts_any x W hs)
  unfold optB at SP
  clear h hO hA hf
  go_enter Tryz.func147, Tryz.ntmps147
  go_wp2_with fail
  go_loopw [8, 19] (fun vv i wr => ∃ (k : Nat) (out : List At), i = .int .i64 k ∧ k ≤ l.length ∧ Hid (Cl w own s.os l out k vv wr) ∧ Hid (wr.heap[w.heap.size]? = some (.cells #[.slice oa own.length oc] 153 (0, 0)))) (fun _ i _ => l.length - (RowKit.intOf i).toNat)
  case atStart => exact ⟨0, [], rfl, Nat.zero_le _, H0.out, HX0.out⟩
  case round =>
    obtain ⟨k, out, rfl, hk, HR, HX⟩ := hrel
    clear H0 HB0 HX0
    by_cases hlt : k < l.length
    · obtain ⟨b, o, rfl, _, y0, y1⟩ := (HA.out.below HR.out.bel) k hlt
      have hz := HF.out _ (List.getElem_mem hlt)
      have HR1 := Lib.hid (HR.out.call ((Below.refl _ wr).alloc (Nat.le_refl _) (.cells #[.string l[k].1, .string l[k].2] 81)))
      have HX1 := Lib.hid (box_new wr #[.string l[k].1, .string l[k].2] 81)
      have HXO := Lib.hid ((Below.heap_alloc wr (.cells #[.string l[k].1, .string l[k].2] 81) _ (heap_lt HX.out)).trans HX.out)
      have C1 := Lib.hid (PA.out l[k].1 (wr.alloc (.cells #[.string l[k].1, .string l[k].2] 81)) hz.1)
      have C2 := Lib.hid (fun W => DP.out l[k].1 W hz.1)
      have HDR : Hid (l.drop k = l[k] :: l.drop (k + 1)) := List.drop_eq_getElem_cons hlt
      have hpl := pre_len l[k].1.data.toList
      rw [By.len_size] at hpl
      have hol2 := HR.out.len
      have HOL := Lib.hid hol2
      clear hol2
      have HLW : Hid (w.heap.size < wr.heap.size) := heap_lt HX.out
      clear HR HX
      generalize l[k] = q at y0 y1 HR1 HX1 HXO C1 C2 HDR hz hpl
      obtain ⟨q1, q2⟩ := q
      simp only at C1 C2 HDR hz hpl
      have HPL := Lib.hid (mk_list (pre q1.data.toList))
      have S3 := Lib.hid (fun W hb => SP.out (Sn.mk (pre q1.data.toList)) W hb)
      rw [Sn.mk_list] at S3
      generalize hpp : Sn.mk (pre q1.data.toList) = PP at C1 HPL S3
      generalize Sn.mk (loc q1.data.toList) = LL at C1
      generalize Sn.mk ((dpre q1.data.toList).getD []) = GG at C2
      cases hd : (dpre q1.data.toList).isSome with
      | true =>
        rw [hd] at C2
        have HQ : Hid (Sn.choose own s.os (l.drop k) = Sn.choose own s.os (l.drop (k + 1))) := by show _ = _; rw [HDR.out, choose_decl hd]
        clear hd HDR hpp hpl hz HPL S3
        go_wp2_with fail
        refine C1.out.mono ?_
        rintro r w2 ⟨rfl, hb⟩
        have HR2 := Lib.hid (HR1.out.call hb)
        have HX2 := Lib.hid ((hb.block _ (heap_lt HX1.out)).trans HX1.out)
        have HXO2 := Lib.hid ((hb.block _ (heap_lt HXO.out)).trans HXO.out)
        clear hb C1 HR1 HX1 HXO y0 y1
        obtain ⟨x0, x1⟩ := bx2 HX2.out
        go_wp2_with fail
        refine (C2.out _).mono ?_
        rintro r w3 ⟨rfl, hb⟩
        have HR3 := Lib.hid (HR2.out.call hb)
        have HX3 := Lib.hid ((hb.block _ (heap_lt HX2.out)).trans HX2.out)
        have HXO3 := Lib.hid ((hb.block _ (heap_lt HXO2.out)).trans HXO2.out)
        clear hb C2 HR2 HX2 HXO2 x0 x1
        obtain ⟨x0, x1⟩ := bx2 HX3.out
        go_wp2_with fail
        go_roundw
        case rel => exact ⟨k + 1, _, by go_num, by omega, HR3.out.skip HQ.out, HXO3.out⟩
        case measure => simp [RowKit.intOf]; omega
      | false =>
        rw [hd] at C2
        by_cases hp0 : pre q1.data.toList = []
        · have HQ : Hid (Sn.choose own s.os (l.drop k) = (Sn.choose own s.os (l.drop (k + 1))).map ((q1, q2) :: ·)) := by show _ = _; rw [HDR.out, choose_keep hd (.inl hp0)]
          obtain rfl : PP = ⟨#[]⟩ := by rw [← hpp, hp0]; rfl
          clear hd HDR hpp hpl hz HPL S3 hp0
          go_wp2_with fail
          refine C1.out.mono ?_
          rintro r w2 ⟨rfl, hb⟩
          have HR2 := Lib.hid (HR1.out.call hb)
          have HX2 := Lib.hid ((hb.block _ (heap_lt HX1.out)).trans HX1.out)
          have HXO2 := Lib.hid ((hb.block _ (heap_lt HXO.out)).trans HXO.out)
          clear hb C1 HR1 HX1 HXO y0 y1
          obtain ⟨x0, x1⟩ := bx2 HX2.out
          go_wp2_with fail
          refine (C2.out _).mono ?_
          rintro r w3 ⟨rfl, hb⟩
          have HR3 := Lib.hid (HR2.out.call hb)
          have HX3 := Lib.hid ((hb.block _ (heap_lt HX2.out)).trans HX2.out)
          have HXO3 := Lib.hid ((hb.block _ (heap_lt HXO2.out)).trans HXO2.out)
          clear hb C2 HR2 HX2 HXO2 x0 x1
          obtain ⟨x0, x1⟩ := bx2 HX3.out
          go_wp2_with (at_builtin; refine wpList_append_lies _ rfl _ _ 46 rfl w.heap.size 81 i0 _ 2 32 Tryz.underlying46 hi0 hz0 hz1 hz2 rfl (by decide) _ out.length (cellsA out) rfl (HR3.out.row.alloc _) ⟨w3.heap.size, 0, none⟩ 1 1 [.string q1, .string q2] rfl rfl (World.news_of_block (cs := #[.string q1, .string q2]) (t := 81) (fr := (0, 0)) (heap_alloc_new w3 _)) (by simp [Value.oneCell']) (by decide) (by have := HOL.out; unfold maxLen; omega) (by have := HOL.out; omega) (by have := HR3.out.bel.size; simp; omega) _ rfl ?_; intro g cap w4 hown hgrow hat hlt4)
          have HB4 := Lib.hid ((HR3.out.bel.alloc HR3.out.bel.size _).grown hgrow (by have := HR3.out.bel.size; simp; omega) (own_lt HR3.out.row))
          have HR4 := Lib.hid (HR3.out.more HQ.out hown HB4.out)
          have HXO4 := Lib.hid ((hgrow.block w.heap.size (by have := heap_lt HXO3.out; simp; omega) (by intro e; have e2 := own_heap HR3.out.row e.symm; obtain ⟨_, cc, hc⟩ := e2; exact ne_of_type hc HXO3.out (by decide) rfl)).trans ((Below.heap_alloc _ _ _ (heap_lt HXO3.out)).trans HXO3.out))
          clear hown hgrow hat hlt4 HR3 HXO3 x0 x1
          go_wp2_with fail
          go_roundw
          case rel => exact ⟨k + 1, _, by go_num, by omega, HR4.out, HXO4.out⟩
          case measure => simp [RowKit.intOf]; omega
        · obtain ⟨p1, p2, p3⟩ := nil_ne (a := PP) (by rw [HPL.out]; exact hp0)
          by_cases hx : q1.data.toList = xlang
          · have HQ : Hid (Sn.choose own s.os (l.drop k) = (Sn.choose own s.os (l.drop (k + 1))).map ((q1, q2) :: ·)) := by show _ = _; rw [HDR.out, choose_keep hd (.inr hx)]
            obtain rfl : q1 = ⟨#[120, 109, 108, 58, 108, 97, 110, 103]⟩ := bytes_eq hx
            clear hd HDR hpp hpl hz HPL S3 hp0 hx
            go_wp2_with fail
            refine C1.out.mono ?_
            rintro r w2 ⟨rfl, hb⟩
            have HR2 := Lib.hid (HR1.out.call hb)
            have HX2 := Lib.hid ((hb.block _ (heap_lt HX1.out)).trans HX1.out)
            have HXO2 := Lib.hid ((hb.block _ (heap_lt HXO.out)).trans HXO.out)
            clear hb C1 HR1 HX1 HXO y0 y1
            obtain ⟨x0, x1⟩ := bx2 HX2.out
            go_wp2_with fail
            refine (C2.out _).mono ?_
            rintro r w3 ⟨rfl, hb⟩
            have HR3 := Lib.hid (HR2.out.call hb)
            have HX3 := Lib.hid ((hb.block _ (heap_lt HX2.out)).trans HX2.out)
            have HXO3 := Lib.hid ((hb.block _ (heap_lt HXO2.out)).trans HXO2.out)
            clear hb C2 HR2 HX2 HXO2 x0 x1
            obtain ⟨x0, x1⟩ := bx2 HX3.out
            go_wp2_with (at_builtin; refine wpList_append_lies _ rfl _ _ 46 rfl w.heap.size 81 i0 _ 2 32 Tryz.underlying46 hi0 hz0 hz1 hz2 rfl (by decide) _ out.length (cellsA out) rfl (HR3.out.row.alloc _) ⟨w3.heap.size, 0, none⟩ 1 1 [.string ⟨#[120, 109, 108, 58, 108, 97, 110, 103]⟩, .string q2] rfl rfl (World.news_of_block (cs := #[.string ⟨#[120, 109, 108, 58, 108, 97, 110, 103]⟩, .string q2]) (t := 81) (fr := (0, 0)) (heap_alloc_new w3 _)) (by simp [Value.oneCell']) (by decide) (by have := HOL.out; unfold maxLen; omega) (by have := HOL.out; omega) (by have := HR3.out.bel.size; simp; omega) _ rfl ?_; intro g cap w4 hown hgrow hat hlt4)
            have HB4 := Lib.hid ((HR3.out.bel.alloc HR3.out.bel.size _).grown hgrow (by have := HR3.out.bel.size; simp; omega) (own_lt HR3.out.row))
            have HR4 := Lib.hid (HR3.out.more HQ.out hown HB4.out)
            have HXO4 := Lib.hid ((hgrow.block w.heap.size (by have := heap_lt HXO3.out; simp; omega) (by intro e; have e2 := own_heap HR3.out.row e.symm; obtain ⟨_, cc, hc⟩ := e2; exact ne_of_type hc HXO3.out (by decide) rfl)).trans ((Below.heap_alloc _ _ _ (heap_lt HXO3.out)).trans HXO3.out))
            clear hown hgrow hat hlt4 HR3 HXO3 x0 x1
            go_wp2_with fail
            go_roundw
            case rel => exact ⟨k + 1, _, by go_num, by omega, HR4.out, HXO4.out⟩
            case measure => simp [RowKit.intOf]; omega
          · obtain ⟨x1n, x1m⟩ := lit_ne (a := q1) (l := [120, 109, 108, 58, 108, 97, 110, 103]) hx
            by_cases hxm : pre q1.data.toList = xml
            · have HQ : Hid (Sn.choose own s.os (l.drop k) = Sn.choose own s.os (l.drop (k + 1))) := by show _ = _; rw [HDR.out, choose_xml hd (by rintro (h | h); exact hp0 h; exact hx h) hxm]
              obtain rfl : PP = ⟨#[120, 109, 108]⟩ := by rw [← hpp, hxm]; rfl
              clear hd HDR hpp hpl hz HPL S3 hp0 hx hxm p1 p2 p3
              go_wp2_with fail
              refine C1.out.mono ?_
              rintro r w2 ⟨rfl, hb⟩
              have HR2 := Lib.hid (HR1.out.call hb)
              have HX2 := Lib.hid ((hb.block _ (heap_lt HX1.out)).trans HX1.out)
              have HXO2 := Lib.hid ((hb.block _ (heap_lt HXO.out)).trans HXO.out)
              clear hb C1 HR1 HX1 HXO y0 y1
              obtain ⟨x0, x1⟩ := bx2 HX2.out
              go_wp2_with fail
              refine (C2.out _).mono ?_
              rintro r w3 ⟨rfl, hb⟩
              have HR3 := Lib.hid (HR2.out.call hb)
              have HX3 := Lib.hid ((hb.block _ (heap_lt HX2.out)).trans HX2.out)
              have HXO3 := Lib.hid ((hb.block _ (heap_lt HXO2.out)).trans HXO2.out)
              clear hb C2 HR2 HX2 HXO2 x0 x1
              obtain ⟨x0, x1⟩ := bx2 HX3.out
              go_wp2_with fail
              go_roundw
              case rel => exact ⟨k + 1, _, by go_num, by omega, HR3.out.skip HQ.out, HXO3.out⟩
              case measure => simp [RowKit.intOf]; omega
            · have HQ : Hid (Sn.choose own s.os (l.drop k) = if (spaceOf own s.os (pre q1.data.toList)).isSome then Sn.choose own s.os (l.drop (k + 1)) else none) := by show _ = _; rw [HDR.out, choose_other hd (by rintro (h | h); exact hp0 h; exact hx h) hxm]
              obtain ⟨x2n, x2m⟩ := lit_ne (a := PP) (l := [120, 109, 108]) (by rw [HPL.out]; exact hxm)
              generalize hsp : spaceOf own s.os (pre q1.data.toList) = so at HQ S3
              clear hd HDR hpp hpl hz HPL hp0 hx hxm hsp
              cases so with
              | some sv =>
                simp only [Option.isSome_some, if_true, Option.getD_some] at HQ S3
                go_wp2_with fail
                refine C1.out.mono ?_
                rintro r w2 ⟨rfl, hb⟩
                have HR2 := Lib.hid (HR1.out.call hb)
                have HX2 := Lib.hid ((hb.block _ (heap_lt HX1.out)).trans HX1.out)
                have HXO2 := Lib.hid ((hb.block _ (heap_lt HXO.out)).trans HXO.out)
                clear hb C1 HR1 HX1 HXO y0 y1
                obtain ⟨x0, x1⟩ := bx2 HX2.out
                go_wp2_with fail
                refine (C2.out _).mono ?_
                rintro r w3 ⟨rfl, hb⟩
                have HR3 := Lib.hid (HR2.out.call hb)
                have HX3 := Lib.hid ((hb.block _ (heap_lt HX2.out)).trans HX2.out)
                have HXO3 := Lib.hid ((hb.block _ (heap_lt HXO2.out)).trans HXO2.out)
                clear hb C2 HR2 HX2 HXO2 x0 x1
                obtain ⟨x0, x1⟩ := bx2 HX3.out
                have d0 : w3.cell? ⟨w.heap.size, 0, none⟩ = some (.slice oa own.length oc) := by rw [Lib.cell_of_heap HXO3.out]; rfl
                go_wp2_with fail
                refine (S3.out _ HR3.out.bel).mono ?_
                rintro r w4 ⟨rfl, hb⟩
                have HR4 := Lib.hid (HR3.out.call hb)
                have HXO4 := Lib.hid ((hb.block _ (heap_lt HXO3.out)).trans HXO3.out)
                clear hb d0 x0 x1
                go_wp2_with fail
                go_roundw
                case rel => exact ⟨k + 1, _, by go_num, by omega, HR4.out.skip HQ.out, HXO4.out⟩
                case measure => simp [RowKit.intOf]; omega
              | none =>
                simp only [Option.isSome_none, Bool.false_eq_true, if_false, Option.getD_none] at HQ S3
                go_wp2_with fail
                refine C1.out.mono ?_
                rintro r w2 ⟨rfl, hb⟩
                have HR2 := Lib.hid (HR1.out.call hb)
                have HX2 := Lib.hid ((hb.block _ (heap_lt HX1.out)).trans HX1.out)
                have HXO2 := Lib.hid ((hb.block _ (heap_lt HXO.out)).trans HXO.out)
                clear hb C1 HR1 HX1 HXO y0 y1
                obtain ⟨x0, x1⟩ := bx2 HX2.out
                go_wp2_with fail
                refine (C2.out _).mono ?_
                rintro r w3 ⟨rfl, hb⟩
                have HR3 := Lib.hid (HR2.out.call hb)
                have HX3 := Lib.hid ((hb.block _ (heap_lt HX2.out)).trans HX2.out)
                have HXO3 := Lib.hid ((hb.block _ (heap_lt HXO2.out)).trans HXO2.out)
                clear hb C2 HR2 HX2 HXO2 x0 x1
                obtain ⟨x0, x1⟩ := bx2 HX3.out
                have d0 : w3.cell? ⟨w.heap.size, 0, none⟩ = some (.slice oa own.length oc) := by rw [Lib.cell_of_heap HXO3.out]; rfl
                have E : Hid (Sn.choose own s.os l = none) := by show _ = _; rw [HR3.out.q, HQ.out]; rfl
                go_wp2_with fail
                refine (S3.out _ HR3.out.bel).mono ?_
                rintro r w4 ⟨rfl, hb⟩
                have HR4 := Lib.hid (HR3.out.call hb)
                clear hb d0 x0 x1
                go_wp2_with fail
                go_ret2
                exact ChP.mk _ (by rw [E.out]; rfl) (by rw [E.out]; exact SlA.nil _ _) HR4.out.bel
    · have E : Hid (Sn.choose own s.os l = some out) := by
        show _ = _
        rw [HR.out.q, List.drop_of_length_le (by omega), Sn.choose]
        simp
      go_wp2_with fail
      go_ret2
      exact ChP.mk _ (by rw [E.out]; rfl) (by rw [E.out]; exact SlA.own HR.out.row) HR.out.bel
end Go.Proofs.YtolnpfcncmcacaaGreatDoor
