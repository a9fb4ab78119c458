/- The walk of the law LegacyCut. Conditions: the tables of places and of widths hold what the program's text lays; a note takes at most what a machine can hold. -/
import Derived.Test.YtclkehfnakhljaaDoorLp
import Derived.Test.YtclkehfnakhljaaDoorLc
import Derived.Test.YtclkehfnakhljaaDoorLd
import Derived.Test.YtclkehfnakhljaaDoorLe
namespace Go.Proofs.YtclkehfnakhljaaDoor.T
open Go.RowKit Go.Lib

theorem tail_of {p t : ByteArray} (h : p.size = 10) : ((p ++ t).extract 10 (p ++ t).size).toList = t.toList := by
  rw [ByteArray.toList_eq, ByteArray.toList_eq, By.extract_drop]
  simp only [ByteArray.data_append, Array.toList_append]
  exact List.drop_left' (by rw [By.len_size]; exact h)
theorem cut_parts (A : ByteArray) (k : Nat) (h : k < A.size) : ∃ u : ByteArray, A = A.extract 0 k ++ u ∧ u.size ≠ 0 := by
  refine ⟨A.extract k A.size, ?_, ?_⟩
  · apply By.bytes_ext
    simp only [ByteArray.data_append, Array.toList_append]
    rw [By.extract_drop]
    have e : (A.extract 0 k).data.toList = A.data.toList.take k := by
      rw [ByteArray.data_extract, Array.toList_extract, List.extract]; simp
    rw [e, List.take_append_drop]
  · rw [Lib.size_eq, By.extract_drop, List.length_drop, By.len_size]; omega
theorem cut_walk (n : Nt) (ai az : Option Addr) (ci cz : Nat) (ch : Int) (b : ByteArray) (cut : Int) (w : World) (hbm : b.size ≤ 140737488351232) (h : NtR w ai az n) (hG : Gp w) : Calls Tryd.prog 4 #[.int .i64 ch, .string b, nA n ai az ci cz, .int .i64 cut] w (OkL w) := by
  by_cases hb : 12000 < b.size
  · exact cut_big n ai az ci cz b ch cut w h hG hb hbm
  cases hp : lprsOk ch b
  · obtain ⟨s1, s2⟩ := parse_no hp
    cases hok : lputOk n 0
    · obtain ⟨p1, p2, p3⟩ := put_no hok
      exact cut_p0_no n ai az ci cz b ch cut w h hG s1 s2 p1 p2 p3 hb
    · have p3 := put_yes hok
      have zA : (lputB n 0).size ≤ 1000000 := Nat.le_trans (put_size hok) (by decide)
      by_cases c2 : lputC n 0 = 2
      · skip
        by_cases k20 : n.k = 20
        · exact cut_p0_k20 n ai az ci cz b ch _ cut w h hG s1 s2 c2 rfl p3 zA k20 hb
        by_cases k21 : n.k = 21
        · exact cut_p0_k21 n ai az ci cz b ch _ cut w h hG s1 s2 c2 rfl p3 zA k21 hb
        by_cases k22 : n.k = 22
        · exact cut_p0_k22 n ai az ci cz b ch _ cut w h hG s1 s2 c2 rfl p3 zA k22 hb
        by_cases k25 : n.k = 25
        · exact cut_p0_k25 n ai az ci cz b ch _ cut w h hG s1 s2 c2 rfl p3 zA k25 hb
        by_cases hc : cut < 0
        · exact cut_p0_neg n ai az ci cz b ch _ cut w h hG s1 s2 c2 rfl p3 zA k20 k21 k22 k25 hc hb
        by_cases hd : ((lputB n 0).size : Int) ≤ cut
        · exact cut_p0_long n ai az ci cz b ch _ cut w h hG s1 s2 c2 rfl p3 zA k20 k21 k22 k25 hc hd hb
        obtain ⟨k, rfl⟩ : ∃ k : Nat, cut = k := ⟨cut.toNat, by omega⟩
        have hk : k < (lputB n 0).size := by omega
        obtain ⟨u, hu, hne⟩ := cut_parts _ k hk
        obtain ⟨u1, u2⟩ := parse_no (cut_none hok c2 k20 k21 k22 k25 hu hne)
        exact cut_p0_cut n ai az ci cz b ch _ w h hG s1 s2 c2 rfl p3 zA k20 k21 k22 k25 k hk u1 u2 hb
      · exact cut_p0_chan n ai az ci cz b ch _ _ cut w h hG s1 s2 rfl rfl p3 zA c2 hb
  · obtain ⟨s1, s2⟩ := parse_yes hp
    obtain ⟨hm, hy, hC, hz, h1, h2⟩ := put_parse hp
    have t3 := put_yes hy
    have s4 := (lprs_small ch b).mono (show b.size ≤ 1000000 by omega)
    rw [s1] at s4
    generalize lrd ch b = y at s1 hm hy hC hz h1 h2 t3 s4
    by_cases c : ch = 2
    · subst c
      obtain ⟨p, q, t, e1, e2, z1, z2⟩ := h2 rfl
      have e10 : (((lputB y 0).extract 10 (lputB y 0).size).toList == (b.extract 10 b.size).toList) = true := by
        rw [beq_iff_eq, e1, e2, tail_of z1, tail_of z2]
      have z10 : 10 ≤ (lputB y 0).size := by rw [e1, ByteArray.size_append]; omega
      have y10 : 10 ≤ b.size := by rw [e2, ByteArray.size_append]; omega
      have zB : (lputB y 0).size ≤ 12000 := by omega
      have zs : (((lputB y 0).size : Int) != (b.size : Int)) = false := by rw [hz]; simp
      have t2 : lputB y 0 = lputB y 0 := rfl
      generalize hB : lputB y 0 = B at t2 e10 z10 zB zs
      have t2 := hB
      clear e1 e2 h1 h2 hz
      cases hok : lputOk n 0
      · obtain ⟨p1, p2, p3⟩ := put_no hok
        exact cut_p2_no n ai az ci cz b B cut w h hG y s1 s2 hm s4 hC t2 t3 zs z10 y10 e10 zB p1 p2 p3 hb
      · have p3 := put_yes hok
        have zA : (lputB n 0).size ≤ 1000000 := Nat.le_trans (put_size hok) (by decide)
        by_cases c2 : lputC n 0 = 2
        · skip
          by_cases k20 : n.k = 20
          · exact cut_p2_k20 n ai az ci cz b B _ cut w h hG y s1 s2 hm s4 hC t2 t3 zs z10 y10 e10 zB c2 rfl p3 zA k20 hb
          by_cases k21 : n.k = 21
          · exact cut_p2_k21 n ai az ci cz b B _ cut w h hG y s1 s2 hm s4 hC t2 t3 zs z10 y10 e10 zB c2 rfl p3 zA k21 hb
          by_cases k22 : n.k = 22
          · exact cut_p2_k22 n ai az ci cz b B _ cut w h hG y s1 s2 hm s4 hC t2 t3 zs z10 y10 e10 zB c2 rfl p3 zA k22 hb
          by_cases k25 : n.k = 25
          · exact cut_p2_k25 n ai az ci cz b B _ cut w h hG y s1 s2 hm s4 hC t2 t3 zs z10 y10 e10 zB c2 rfl p3 zA k25 hb
          by_cases hc : cut < 0
          · exact cut_p2_neg n ai az ci cz b B _ cut w h hG y s1 s2 hm s4 hC t2 t3 zs z10 y10 e10 zB c2 rfl p3 zA k20 k21 k22 k25 hc hb
          by_cases hd : ((lputB n 0).size : Int) ≤ cut
          · exact cut_p2_long n ai az ci cz b B _ cut w h hG y s1 s2 hm s4 hC t2 t3 zs z10 y10 e10 zB c2 rfl p3 zA k20 k21 k22 k25 hc hd hb
          obtain ⟨k, rfl⟩ : ∃ k : Nat, cut = k := ⟨cut.toNat, by omega⟩
          have hk : k < (lputB n 0).size := by omega
          obtain ⟨u, hu, hne⟩ := cut_parts _ k hk
          obtain ⟨u1, u2⟩ := parse_no (cut_none hok c2 k20 k21 k22 k25 hu hne)
          exact cut_p2_cut n ai az ci cz b B _ w h hG y s1 s2 hm s4 hC t2 t3 zs z10 y10 e10 zB c2 rfl p3 zA k20 k21 k22 k25 k hk u1 u2 hb
        · exact cut_p2_chan n ai az ci cz b B _ _ cut w h hG y s1 s2 hm s4 hC t2 t3 zs z10 y10 e10 zB rfl rfl p3 zA c2 hb
    · have t2 := h1 c
      cases hok : lputOk n 0
      · obtain ⟨p1, p2, p3⟩ := put_no hok
        exact cut_p1_no n ai az ci cz b ch cut w h hG y s1 s2 hm s4 hC t2 t3 c p1 p2 p3 hb
      · have p3 := put_yes hok
        have zA : (lputB n 0).size ≤ 1000000 := Nat.le_trans (put_size hok) (by decide)
        by_cases c2 : lputC n 0 = 2
        · skip
          by_cases k20 : n.k = 20
          · exact cut_p1_k20 n ai az ci cz b ch _ cut w h hG y s1 s2 hm s4 hC t2 t3 c c2 rfl p3 zA k20 hb
          by_cases k21 : n.k = 21
          · exact cut_p1_k21 n ai az ci cz b ch _ cut w h hG y s1 s2 hm s4 hC t2 t3 c c2 rfl p3 zA k21 hb
          by_cases k22 : n.k = 22
          · exact cut_p1_k22 n ai az ci cz b ch _ cut w h hG y s1 s2 hm s4 hC t2 t3 c c2 rfl p3 zA k22 hb
          by_cases k25 : n.k = 25
          · exact cut_p1_k25 n ai az ci cz b ch _ cut w h hG y s1 s2 hm s4 hC t2 t3 c c2 rfl p3 zA k25 hb
          by_cases hc : cut < 0
          · exact cut_p1_neg n ai az ci cz b ch _ cut w h hG y s1 s2 hm s4 hC t2 t3 c c2 rfl p3 zA k20 k21 k22 k25 hc hb
          by_cases hd : ((lputB n 0).size : Int) ≤ cut
          · exact cut_p1_long n ai az ci cz b ch _ cut w h hG y s1 s2 hm s4 hC t2 t3 c c2 rfl p3 zA k20 k21 k22 k25 hc hd hb
          obtain ⟨k, rfl⟩ : ∃ k : Nat, cut = k := ⟨cut.toNat, by omega⟩
          have hk : k < (lputB n 0).size := by omega
          obtain ⟨u, hu, hne⟩ := cut_parts _ k hk
          obtain ⟨u1, u2⟩ := parse_no (cut_none hok c2 k20 k21 k22 k25 hu hne)
          exact cut_p1_cut n ai az ci cz b ch _ w h hG y s1 s2 hm s4 hC t2 t3 c c2 rfl p3 zA k20 k21 k22 k25 k hk u1 u2 hb
        · exact cut_p1_chan n ai az ci cz b ch _ _ cut w h hG y s1 s2 hm s4 hC t2 t3 c rfl rfl p3 zA c2 hb
end Go.Proofs.YtclkehfnakhljaaDoor.T
