/- A stream's header, as the gateway's Begin gives it, read by a scanner; what goes over such a stream. No condition; nothing of the program stands here. -/
import Derived.Test.YtolnpfcncmcacaaGreatDoorMN
import Derived.Test.YtolnpfcncmcacaaGreatDoorQJ
namespace Go.Proofs.YtolnpfcncmcacaaGreatDoor
open Go.RowKit Go.Lib Go.Shelf Tg Sn
theorem dm_bytes : ∀ {p : Bool} {l : List UInt8}, Jd.dm p l = true → ∀ c ∈ l, c = 46 ∨ Jd.ld c = true
 | _, [], _, c, hc => by cases hc
 | p, b :: r, h, c, hc => by
   rw [Jd.dm] at h
   by_cases e : b = 46
   · rw [if_pos e] at h
     simp only [Bool.and_eq_true] at h
     rcases List.mem_cons.1 hc with rfl | hc
     · exact .inl e
     · exact dm_bytes h.2 c hc
   · rw [if_neg e] at h
     simp only [Bool.and_eq_true] at h
     rcases List.mem_cons.1 hc with rfl | hc
     · exact .inr h.1
     · exact dm_bytes h.2 c hc
theorem ld_all : (Jd.letters.all fun c => qb c == [c]) = true := by decide
theorem ld_qb (c : UInt8) (h : Jd.ld c = true) : qb c = [c] := by
 have h2 : c ∈ Jd.letters := by simpa [Jd.ld] using h
 exact eq_of_beq (List.all_eq_true.1 ld_all c h2)
theorem q_same : ∀ {l : B8}, (∀ c ∈ l, qb c = [c]) → q l = l
 | [], _ => rfl
 | b :: r, h => by
   rw [q_cons, h b (List.mem_cons_self ..), q_same fun c hc => h c (List.mem_cons_of_mem _ hc)]; rfl
theorem q_dm {l : B8} (h : Jd.dm true l = true) : q l = l := q_same fun c hc => by
 rcases dm_bytes h c hc with rfl | h1
 · decide
 · exact ld_qb c h1
def cmpL : B8 := [106, 97, 98, 98, 101, 114, 58, 99, 111, 109, 112, 111, 110, 101, 110, 116, 58, 97, 99, 99, 101, 112, 116]
def spaL : B8 := [104, 116, 116, 112, 58, 47, 47, 101, 116, 104, 101, 114, 120, 46, 106, 97, 98, 98, 101, 114, 46, 111, 114, 103, 47, 115, 116, 114, 101, 97, 109, 115]
def hdN : B8 := [115, 116, 114, 101, 97, 109, 58, 115, 116, 114, 101, 97, 109]
def xsN : B8 := [120, 109, 108, 110, 115, 58, 115, 116, 114, 101, 97, 109]
def toN : B8 := [116, 111]
def proL : B8 := [60, 63, 120, 109, 108, 32, 118, 101, 114, 115, 105, 111, 110, 61, 39, 49, 46, 48, 39, 63, 62]
def hdA (dom : ByteArray) : List At := [(Sn.mk xmlns, Sn.mk cmpL), (Sn.mk xsN, Sn.mk spaL), (Sn.mk toN, dom)]
def ownD : List At := [(Sn.mk [], Sn.mk cmpL), (Sn.mk [115, 116, 114, 101, 97, 109], Sn.mk spaL)]
def opD : Sn.Op := ⟨ownD, Sn.mk hdN, El0⟩
def elD (dom : ByteArray) : El := .mk (Sn.mk spaL) (Sn.mk [115, 116, 114, 101, 97, 109]) [(Sn.mk toN, dom)] ⟨#[]⟩ []
def tagD (dom : ByteArray) : B8 := hdN ++ Tg.marks (hdA dom)
theorem An.hdN : An hdN := ⟨by decide, by decide, asc_text (by decide), by decide⟩
theorem An.xsN : An xsN := ⟨by decide, by decide, asc_text (by decide), by decide⟩
theorem An.toN : An toN := An.name (by decide)
theorem hdA_an (dom : ByteArray) : ∀ a ∈ hdA dom, An a.1.data.toList := by
 intro a ha
 simp only [hdA, List.mem_cons, List.not_mem_nil, or_false] at ha
 rcases ha with rfl | rfl | rfl
 · show An (Sn.mk xmlns).data.toList
   rw [Sn.mk_list]; exact An.xmlns
 · show An (Sn.mk xsN).data.toList
   rw [Sn.mk_list]; exact An.xsN
 · show An (Sn.mk toN).data.toList
   rw [Sn.mk_list]; exact An.toN
theorem hdA_tx {dom : ByteArray} (hd : isTx dom.data.toList = true) : ∀ a ∈ hdA dom, An a.1.data.toList ∧ isTx a.2.data.toList = true := by
 intro a ha
 refine ⟨hdA_an dom a ha, ?_⟩
 simp only [hdA, List.mem_cons, List.not_mem_nil, or_false] at ha
 rcases ha with rfl | rfl | rfl
 · show isTx (Sn.mk cmpL).data.toList = true
   rw [Sn.mk_list]; exact asc_text (by decide)
 · show isTx (Sn.mk spaL).data.toList = true
   rw [Sn.mk_list]; exact asc_text (by decide)
 · exact hd
theorem readBg_q {n : B8} (h : An n) {a : At} {l : List At} (hl : ∀ b ∈ a :: l, An b.1.data.toList) : readBg (60 :: ((n ++ Tg.marks (a :: l)) ++ [62])) = some ⟨Sn.mk n, (a :: l).map rawA, false⟩ := by
 have hE : isEmp (60 :: ((n ++ Tg.marks (a :: l)) ++ [62])) = false := by
   unfold isEmp
   rw [inner_tag]
   rcases marks_last (a :: l) with e | ⟨i, e⟩
   · exact absurd e (by simp [Tg.marks, Tg.mark])
   · rw [e, ← List.append_assoc, List.getLast?_concat]; decide
 have hI : inner2 (60 :: ((n ++ Tg.marks (a :: l)) ++ [62])) = n ++ Tg.marks (a :: l) := by
   unfold inner2
   rw [hE, inner_tag]; rfl
 have hb : ∀ d ∈ n, (!bk d) = true := fun d hd => by rw [(h.no d hd).2.2.2.2]; rfl
 have hT : (n ++ Tg.marks (a :: l)).takeWhile (fun c => !bk c) = n := by
   rw [List.takeWhile_append_of_pos hb, (marks_head (a :: l)).1, List.append_nil]
 have hD : (n ++ Tg.marks (a :: l)).dropWhile (fun c => !bk c) = Tg.marks (a :: l) := by
   rw [List.dropWhile_append_of_pos hb, (marks_head (a :: l)).2]
 unfold readBg
 rw [hI, hT, hD, if_pos h.full, raws_marks hl, hE]
 rfl
theorem hdA_decls (dom : ByteArray) : decls (hdA dom) = some ownD := by kernel_rfl
theorem hdA_twins (dom : ByteArray) : twins ((hdA dom).map rawA) = false := by kernel_rfl
theorem hdA_others (dom : ByteArray) : others ((hdA dom).map rawA) = 1 := by kernel_rfl
theorem hdA_space : spaceOf ownD [] (pre (Sn.mk hdN).data.toList) = some (Sn.mk spaL) := by kernel_rfl
theorem hdA_choose (dom : ByteArray) : Sn.choose ownD [] (hdA dom) = some [(Sn.mk toN, dom)] := by kernel_rfl
theorem read_D (dom : ByteArray) : Sn.read [] ⟨Sn.mk hdN, (hdA dom).map rawA, false⟩ = (0, ⟨ownD, Sn.mk hdN, elD dom⟩) := by
 have hv := vals_raw (hdA dom)
 rw [rd_go (hdA_twins dom) (by show ¬ 16 < others ((hdA dom).map rawA); rw [hdA_others]; decide) (by show (vals ((hdA dom).map rawA)).1 = 0; rw [hv])]
 simp only [hv, hdA_decls, hdA_space, hdA_choose]
 rfl
theorem tagD_len {dom : ByteArray} (hq : q dom.data.toList = dom.data.toList) (hs : dom.size ≤ 6000) : (tagD dom).length ≤ 6200 := by
 have l3 : dom.data.toList.length = dom.size := By.len_size dom
 unfold tagD hdA
 simp only [Tg.marks, Tg.mark, List.flatMap_cons, List.flatMap_nil, List.length_append, List.length_cons, List.length_nil, Sn.mk_list, hq, l3]
 have e1 : (q cmpL).length = 23 := by decide
 have e2 : (q spaL).length = 32 := by decide
 have e3 : hdN.length = 13 := rfl
 have e4 : xmlns.length = 5 := rfl
 have e5 : xsN.length = 12 := rfl
 have e6 : toN.length = 2 := rfl
 omega
theorem pro_fed : Sn.feed St0 proL = (S [] 21, []) := feedC_ok (by kernel_rfl)
theorem hd_fed {dom : ByteArray} (hd : isTx dom.data.toList = true) (hq : q dom.data.toList = dom.data.toList) (hs : dom.size ≤ 6000) :
   ∃ n, Sn.feed St0 (proL ++ (60 :: (tagD dom ++ [62]))) = (S [opD] n, [⟨1, elD dom, 0⟩]) := by
 have hl := tagD_len hq hs
 have hru : runs 0 (tagD dom) = some 0 := by
   unfold tagD
   rw [runs_append (runs_plain fun c hc => ⟨(An.hdN.no c hc).2.1, (An.hdN.no c hc).2.2.1, (An.hdN.no c hc).2.2.2.1⟩), runs_marks (hdA_an dom)]
 have hT : isTx (60 :: (tagD dom ++ [62])) = true :=
   tx_append (a := [60]) (asc_text (by decide)) (tx_append (tx_append An.hdN.tx (marks_text (hdA_tx hd))) (asc_text (by decide)))
 have hlen : (60 :: (tagD dom ++ [62])).length = (tagD dom).length + 2 := by simp
 have t1 : Sn.take (S [] 21) (60 :: (tagD dom ++ [62])) = (S [opD] (0 + ((tagD dom).length + 2)), ⟨1, elD dom, 0⟩, 0) := by
   rw [tk_beg (by rw [took_S]; show ¬ 16384 < 0 + _; rw [hlen]; omega) hT rfl (by show (115 : Nat) ≠ 63; decide) (by show (115 : Nat) ≠ 33; decide) (by show (115 : Nat) ≠ 47; decide), took_S, hlen]
   exact tb_top (s := S [] (0 + ((tagD dom).length + 2))) (readBg_q An.hdN (hdA_an dom)) (read_D dom) rfl rfl
 refine ⟨0 + ((tagD dom).length + 2), ?_⟩
 rw [Sn.feed_append, pro_fed, feed_tag hru (by omega), tok1_of t1]
 rfl
theorem D_dn : Dn [opD] (Sn.mk cmpL) := by
 unfold Dn
 kernel_rfl
theorem D_put {e : El} (h : Rt 1 e) (hl : (put e (Sn.mk cmpL)).length ≤ 16384) (n : Nat) : Sn.feed (S [opD] n) (put e (Sn.mk cmpL)) = (S [opD] (put e (Sn.mk cmpL)).length, [⟨2, e, 0⟩]) := by
 have := put_fed e 1 [opD] n (Sn.mk cmpL) h rfl (by simp) D_dn (by show 0 + _ ≤ _; omega)
 rw [this]
 show (S [opD] (0 + _), _) = _
 rw [Nat.zero_add]; rfl
theorem D_end (n : Nat) : ∃ st, Sn.feed (S [opD] n) [60, 47, 115, 116, 114, 101, 97, 109, 58, 115, 116, 114, 101, 97, 109, 62] = (st, [⟨3, El0, 0⟩]) := by
 have h := feed_tag (os := [opD]) (n := n) (m := [47, 115, 116, 114, 101, 97, 109, 58, 115, 116, 114, 101, 97, 109]) (by decide) (by decide)
 have ht : Sn.take (S [opD] n) (60 :: ([47, 115, 116, 114, 101, 97, 109, 58, 115, 116, 114, 101, 97, 109] ++ [62])) = ((Sn.shut (S [opD] (0 + 16))).1, (Sn.shut (S [opD] (0 + 16))).2, 0) := by
   rw [tk_end (by rw [took_S]; show ¬ 16384 < 0 + 16; decide) (asc_text (by decide)) rfl rfl, took_S]
   exact te_yes (s := S [opD] (0 + 16)) (ini := []) (o := opD) (by decide) rfl (by decide)
 have e : [60, 47, 115, 116, 114, 101, 97, 109, 58, 115, 116, 114, 101, 97, 109, 62] = (60 :: ([47, 115, 116, 114, 101, 97, 109, 58, 115, 116, 114, 101, 97, 109] ++ [62]) : B8) := rfl
 rw [e, h]
 unfold tok1
 simp only [ht, if_true]
 exact ⟨_, rfl⟩
end Go.Proofs.YtolnpfcncmcacaaGreatDoor
