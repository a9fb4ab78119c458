/- The walk of StanzaTurns, each way by itself. Condition: texts and elements of the reach that the form has. -/
import Derived.Test.YtccpdfcmhggleaaGreatDoorSwb
import Derived.Test.YtccpdfcmhggleaaGreatDoorSwc
namespace Go.Proofs.YtccpdfcmhggleaaGreatDoor
open Go.RowKit Go.Lib Go.Shelf Tg St

theorem stanzaTurns_walk (ld : List El) (kd : Int) (ty fn fd fr tn td tr id sh st bd cd : ByteArray) (aL : Option Addr) (cL : Nat) (cond : ByteArray) (w : World) (hK : KsIn w.heap.size w aL ld) (hcs : cond.size ≤ 140737488351232) (h1 : ty.size ≤ 140737488351232) (h2 : fn.size ≤ 140737488351232) (h3 : fd.size ≤ 140737488351232) (h4 : fr.size ≤ 140737488351232) (h5 : tn.size ≤ 140737488351232) (h6 : td.size ≤ 140737488351232) (h7 : tr.size ≤ 140737488351232) (h8 : id.size ≤ 140737488351232) (h9 : sh.size ≤ 140737488351232) (h10_ : st.size ≤ 140737488351232) (h11 : bd.size ≤ 140737488351232) (h12 : cd.size ≤ 140737488351232) :
    Calls Tryz.prog 4 #[.agg #[.int .i64 kd, .string ty, .string fn, .string fd, .string fr, .string tn, .string td, .string tr, .string id, .string sh, .string st, .string bd, .slice aL ld.length cL, .string cd], .string cond] w fun r w' => r = .returned (.bool true) ∧ Below w.heap.size w w' := by
  cases her : er ⟨kd, ty, ⟨fn, fd, fr⟩, ⟨tn, td, tr⟩, id, sh, st, bd, ld, cd⟩ cond with
  | none =>
    cases hrs : rs ⟨kd, ty, ⟨fn, fd, fr⟩, ⟨tn, td, tr⟩, id, sh, st, bd, ld, cd⟩ [] with
    | none => exact turns_nn ld kd ty fn fd fr tn td tr id sh st bd cd aL cL cond w her hrs hK hcs h1 h2 h3 h4 h5 h6 h7 h8 h9 h10_ h11 h12
    | some u =>
      have hu : u = ⟨kd, tRes, ⟨tn, td, tr⟩, ⟨fn, fd, fr⟩, id, E0, E0, E0, [], E0⟩ := (rs_some hrs).1
      subst hu
      exact turns_ny ld kd ty fn fd fr tn td tr id sh st bd cd aL cL cond w her hrs hK hcs h1 h2 h3 h4 h5 h6 h7 h8 h9 h10_ h11 h12
  | some t =>
    have ht : t = ⟨kd, tErr, ⟨tn, td, tr⟩, ⟨fn, fd, fr⟩, id, E0, E0, E0, [], cond⟩ := (er_someT her).1
    subst ht
    cases hrs : rs ⟨kd, ty, ⟨fn, fd, fr⟩, ⟨tn, td, tr⟩, id, sh, st, bd, ld, cd⟩ [] with
    | none => exact turns_yn ld kd ty fn fd fr tn td tr id sh st bd cd aL cL cond w her hrs hK hcs h1 h2 h3 h4 h5 h6 h7 h8 h9 h10_ h11 h12
    | some u =>
      have hu : u = ⟨kd, tRes, ⟨tn, td, tr⟩, ⟨fn, fd, fr⟩, id, E0, E0, E0, [], E0⟩ := (rs_some hrs).1
      subst hu
      exact turns_yy ld kd ty fn fd fr tn td tr id sh st bd cd aL cL cond w her hrs hK hcs h1 h2 h3 h4 h5 h6 h7 h8 h9 h10_ h11 h12
end Go.Proofs.YtccpdfcmhggleaaGreatDoor
