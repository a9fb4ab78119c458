/- Contract: the document's Is. Conditions: those of the theorem's head. -/
import Derived.Test.YtiodjaeonoheiaaGreatDoorIp
import Derived.Test.YtiodjaeonoheiaaGreatDoorIc
import Derived.Test.YtiodjaeonoheiaaGreatDoorId
import Derived.Test.YtiodjaeonoheiaaGreatDoorIe
import Derived.Test.YtiodjaeonoheiaaGreatDoorIf
import Derived.Test.YtiodjaeonoheiaaGreatDoorIi
namespace Go.Proofs.YtiodjaeonoheiaaGreatDoor.T
open Go.RowKit Go.Lib
theorem ris_1 (n : Nt) (ai az : Option Addr) (ci cz : Nat) (w : World) (h : NtL w ai az n) (hk : n.k = 1) : Calls Tryz.prog 11 #[nA n ai az ci cz] w (Gives (.bool (may n)) w) := by
  unfold nA
  rw [may_1 hk, hk]
  have q := ris_1_y n ai az ci cz w h
  exact q
theorem ris_2 (n : Nt) (ai az : Option Addr) (ci cz : Nat) (w : World) (h : NtL w ai az n) (hk : n.k = 2) : Calls Tryz.prog 11 #[nA n ai az ci cz] w (Gives (.bool (may n)) w) := by
  unfold nA
  rw [may_2 hk, hk]
  cases t0 : inB n.d.size 1 256
  · have q := ris_2_0 n ai az ci cz w h t0
    try unfold IsC at q
    simpa only [Bool.false_and, Bool.true_and, Bool.and_false, Bool.and_true, Bool.or_false, Bool.false_or, Bool.true_or, Bool.or_true, decide_true] using q
  have q := ris_2_y n ai az ci cz w h t0
  try unfold IsC at q
  simpa only [Bool.false_and, Bool.true_and, Bool.and_false, Bool.and_true, Bool.or_false, Bool.false_or, Bool.true_or, Bool.or_true, decide_true] using q
theorem ris_3 (n : Nt) (ai az : Option Addr) (ci cz : Nat) (w : World) (h : NtL w ai az n) (hk : n.k = 3) : Calls Tryz.prog 11 #[nA n ai az ci cz] w (Gives (.bool (may n)) w) := by
  unfold nA
  rw [may_3 hk, hk]
  cases t0 : inB n.c 0 65535
  · have q := ris_3_0 n ai az ci cz w h t0
    try unfold IsC at q
    simpa only [Bool.false_and, Bool.true_and, Bool.and_false, Bool.and_true, Bool.or_false, Bool.false_or, Bool.true_or, Bool.or_true, decide_true] using q
  have q := ris_3_y n ai az ci cz w h t0
  try unfold IsC at q
  simpa only [Bool.false_and, Bool.true_and, Bool.and_false, Bool.and_true, Bool.or_false, Bool.false_or, Bool.true_or, Bool.or_true, decide_true] using q
theorem ris_4 (n : Nt) (ai az : Option Addr) (ci cz : Nat) (w : World) (h : NtL w ai az n) (hk : n.k = 4) : Calls Tryz.prog 11 #[nA n ai az ci cz] w (Gives (.bool (may n)) w) := by
  unfold nA
  rw [may_4 hk, hk]
  have q := ris_4_y n ai az ci cz w h
  exact q
theorem ris_5 (n : Nt) (ai az : Option Addr) (ci cz : Nat) (w : World) (h : NtL w ai az n) (hk : n.k = 5) : Calls Tryz.prog 11 #[nA n ai az ci cz] w (Gives (.bool (may n)) w) := by
  unfold nA
  rw [may_5 hk, hk]
  cases t0 : nmB n.n true
  · have q := ris_5_0 n ai az ci cz w h t0
    try unfold IsC at q
    simpa only [Bool.false_and, Bool.true_and, Bool.and_false, Bool.and_true, Bool.or_false, Bool.false_or, Bool.true_or, Bool.or_true, decide_true] using q
  have q := ris_5_y n ai az ci cz w h t0
  try unfold IsC at q
  simpa only [Bool.false_and, Bool.true_and, Bool.and_false, Bool.and_true, Bool.or_false, Bool.false_or, Bool.true_or, Bool.or_true, decide_true] using q
theorem ris_6 (n : Nt) (ai az : Option Addr) (ci cz : Nat) (w : World) (h : NtL w ai az n) (hk : n.k = 6) : Calls Tryz.prog 11 #[nA n ai az ci cz] w (Gives (.bool (may n)) w) := by
  unfold nA
  rw [may_6 hk, hk]
  cases t0 : inB n.d.size 1 64
  · have q := ris_6_0 n ai az ci cz w h t0
    try unfold IsC at q
    simpa only [Bool.false_and, Bool.true_and, Bool.and_false, Bool.and_true, Bool.or_false, Bool.false_or, Bool.true_or, Bool.or_true, decide_true] using q
  have q := ris_6_y n ai az ci cz w h t0
  try unfold IsC at q
  simpa only [Bool.false_and, Bool.true_and, Bool.and_false, Bool.and_true, Bool.or_false, Bool.false_or, Bool.true_or, Bool.or_true, decide_true] using q
theorem ris_7 (n : Nt) (ai az : Option Addr) (ci cz : Nat) (w : World) (h : NtL w ai az n) (hk : n.k = 7) : Calls Tryz.prog 11 #[nA n ai az ci cz] w (Gives (.bool (may n)) w) := by
  unfold nA
  rw [may_7 hk, hk]
  cases t0 : nmB n.n true
  · have q := ris_7_0 n ai az ci cz w h t0
    try unfold IsC at q
    simpa only [Bool.false_and, Bool.true_and, Bool.and_false, Bool.and_true, Bool.or_false, Bool.false_or, Bool.true_or, Bool.or_true, decide_true] using q
  cases t1 : ((n.d.size : Int) == 16)
  · have q := ris_7_1 n ai az ci cz w h t0 t1
    try unfold IsC at q
    simpa only [Bool.false_and, Bool.true_and, Bool.and_false, Bool.and_true, Bool.or_false, Bool.false_or, Bool.true_or, Bool.or_true, decide_true] using q
  have q := ris_7_y n ai az ci cz w h t0 t1
  try unfold IsC at q
  simpa only [Bool.false_and, Bool.true_and, Bool.and_false, Bool.and_true, Bool.or_false, Bool.false_or, Bool.true_or, Bool.or_true, decide_true] using q
theorem ris_8 (n : Nt) (ai az : Option Addr) (ci cz : Nat) (w : World) (h : NtL w ai az n) (hk : n.k = 8) : Calls Tryz.prog 11 #[nA n ai az ci cz] w (Gives (.bool (may n)) w) := by
  unfold nA
  rw [may_8 hk, hk]
  cases t0 : nmB n.n true
  · have q := ris_8_0 n ai az ci cz w h t0
    try unfold IsC at q
    simpa only [Bool.false_and, Bool.true_and, Bool.and_false, Bool.and_true, Bool.or_false, Bool.false_or, Bool.true_or, Bool.or_true, decide_true] using q
  cases t1 : inB n.d.size 1 256
  · by_cases hd : n.d.size = 0
    · have e := By.empty_of hd
      rw [decide_eq_true hd]
      rw [e]
      cases t2 : inB n.c 1 65535
      · have q := ris_8_3 n ai az ci cz w h t0 t2
        try unfold IsC at q
        simpa only [Bool.false_and, Bool.true_and, Bool.and_false, Bool.and_true, Bool.or_false, Bool.false_or, Bool.true_or, Bool.or_true, decide_true] using q
      · have q := ris_8_y2 n ai az ci cz w h t0 t2
        try unfold IsC at q
        simpa only [Bool.false_and, Bool.true_and, Bool.and_false, Bool.and_true, Bool.or_false, Bool.false_or, Bool.true_or, Bool.or_true, decide_true] using q
    · rw [decide_eq_false hd]
      have q := ris_8_2 n ai az ci cz w h t0 t1 hd
      try unfold IsC at q
      simpa only [Bool.false_and, Bool.true_and, Bool.and_false, Bool.and_true, Bool.or_false, Bool.false_or, Bool.true_or, Bool.or_true, decide_true] using q
  · have hd : ¬ n.d.size = 0 := by have := inB_iff.1 t1; omega
    rw [decide_eq_false hd]
    cases t2 : (n.c == 0)
    · have q := ris_8_1 n ai az ci cz w h t0 t1 t2 hd
      try unfold IsC at q
      simpa only [Bool.false_and, Bool.true_and, Bool.and_false, Bool.and_true, Bool.or_false, Bool.false_or, Bool.true_or, Bool.or_true, decide_true] using q
    · have q := ris_8_y1 n ai az ci cz w h t0 t1 t2
      try unfold IsC at q
      simpa only [Bool.false_and, Bool.true_and, Bool.and_false, Bool.and_true, Bool.or_false, Bool.false_or, Bool.true_or, Bool.or_true, decide_true] using q
theorem ris_9 (n : Nt) (ai az : Option Addr) (ci cz : Nat) (w : World) (h : NtL w ai az n) (hk : n.k = 9) : Calls Tryz.prog 11 #[nA n ai az ci cz] w (Gives (.bool (may n)) w) := by
  unfold nA
  rw [may_9 hk, hk]
  have q := ris_9_y n ai az ci cz w h
  exact q
theorem ris_10 (n : Nt) (ai az : Option Addr) (ci cz : Nat) (w : World) (h : NtL w ai az n) (hk : n.k = 10) : Calls Tryz.prog 11 #[nA n ai az ci cz] w (Gives (.bool (may n)) w) := by
  unfold nA
  rw [may_10 hk, hk]
  have q := ris_10_y n ai az ci cz w h
  exact q
theorem ris_11 (n : Nt) (ai az : Option Addr) (ci cz : Nat) (w : World) (h : NtL w ai az n) (hk : n.k = 11) : Calls Tryz.prog 11 #[nA n ai az ci cz] w (Gives (.bool (may n)) w) := by
  unfold nA
  rw [may_11 hk, hk]
  cases t0 : inB n.s 0 65535
  · have q := ris_11_0 n ai az ci cz w h t0
    try unfold IsC at q
    simpa only [Bool.false_and, Bool.true_and, Bool.and_false, Bool.and_true, Bool.or_false, Bool.false_or, Bool.true_or, Bool.or_true, decide_true] using q
  have q := ris_11_y n ai az ci cz w h t0
  try unfold IsC at q
  simpa only [Bool.false_and, Bool.true_and, Bool.and_false, Bool.and_true, Bool.or_false, Bool.false_or, Bool.true_or, Bool.or_true, decide_true] using q
theorem ris_12 (n : Nt) (ai az : Option Addr) (ci cz : Nat) (w : World) (h : NtL w ai az n) (hk : n.k = 12) : Calls Tryz.prog 11 #[nA n ai az ci cz] w (Gives (.bool (may n)) w) := by
  unfold nA
  rw [may_12 hk, hk]
  cases t0 : inB n.e 0 4294967295
  · have q := ris_12_0 n ai az ci cz w h t0
    try unfold IsC at q
    simpa only [Bool.false_and, Bool.true_and, Bool.and_false, Bool.and_true, Bool.or_false, Bool.false_or, Bool.true_or, Bool.or_true, decide_true] using q
  have q := ris_12_y n ai az ci cz w h t0
  try unfold IsC at q
  simpa only [Bool.false_and, Bool.true_and, Bool.and_false, Bool.and_true, Bool.or_false, Bool.false_or, Bool.true_or, Bool.or_true, decide_true] using q
theorem ris_13 (n : Nt) (ai az : Option Addr) (ci cz : Nat) (w : World) (h : NtL w ai az n) (hk : n.k = 13) : Calls Tryz.prog 11 #[nA n ai az ci cz] w (Gives (.bool (may n)) w) := by
  unfold nA
  rw [may_13 hk, hk]
  cases t0 : nmB n.n true
  · have q := ris_13_0 n ai az ci cz w h t0
    try unfold IsC at q
    simpa only [Bool.false_and, Bool.true_and, Bool.and_false, Bool.and_true, Bool.or_false, Bool.false_or, Bool.true_or, Bool.or_true, decide_true] using q
  cases t1 : inB n.s 0 65535
  · have q := ris_13_1 n ai az ci cz w h t0 t1
    try unfold IsC at q
    simpa only [Bool.false_and, Bool.true_and, Bool.and_false, Bool.and_true, Bool.or_false, Bool.false_or, Bool.true_or, Bool.or_true, decide_true] using q
  cases t2 : inB n.e 0 65535
  · have q := ris_13_2 n ai az ci cz w h t0 t1 t2
    try unfold IsC at q
    simpa only [Bool.false_and, Bool.true_and, Bool.and_false, Bool.and_true, Bool.or_false, Bool.false_or, Bool.true_or, Bool.or_true, decide_true] using q
  have q := ris_13_y n ai az ci cz w h t0 t1 t2
  try unfold IsC at q
  simpa only [Bool.false_and, Bool.true_and, Bool.and_false, Bool.and_true, Bool.or_false, Bool.false_or, Bool.true_or, Bool.or_true, decide_true] using q
theorem ris_14 (n : Nt) (ai az : Option Addr) (ci cz : Nat) (w : World) (h : NtL w ai az n) (hk : n.k = 14) : Calls Tryz.prog 11 #[nA n ai az ci cz] w (Gives (.bool (may n)) w) := by
  unfold nA
  rw [may_14 hk, hk]
  cases t0 : nmB n.n true
  · have q := ris_14_0 n ai az ci cz w h t0
    try unfold IsC at q
    simpa only [Bool.false_and, Bool.true_and, Bool.and_false, Bool.and_true, Bool.or_false, Bool.false_or, Bool.true_or, Bool.or_true, decide_true] using q
  have q := ris_14_y n ai az ci cz w h t0
  try unfold IsC at q
  simpa only [Bool.false_and, Bool.true_and, Bool.and_false, Bool.and_true, Bool.or_false, Bool.false_or, Bool.true_or, Bool.or_true, decide_true] using q
theorem ris_15 (n : Nt) (ai az : Option Addr) (ci cz : Nat) (w : World) (h : NtL w ai az n) (hk : n.k = 15) : Calls Tryz.prog 11 #[nA n ai az ci cz] w (Gives (.bool (may n)) w) := by
  unfold nA
  rw [may_15 hk, hk]
  cases t0 : nmB n.n true
  · have q := ris_15_0 n ai az ci cz w h t0
    try unfold IsC at q
    simpa only [Bool.false_and, Bool.true_and, Bool.and_false, Bool.and_true, Bool.or_false, Bool.false_or, Bool.true_or, Bool.or_true, decide_true] using q
  cases t1 : txB n.x 2000
  · have q := ris_15_1 n ai az ci cz w h t0 t1
    try unfold IsC at q
    simpa only [Bool.false_and, Bool.true_and, Bool.and_false, Bool.and_true, Bool.or_false, Bool.false_or, Bool.true_or, Bool.or_true, decide_true] using q
  cases t2 : ((n.d.size : Int) == 8)
  · have q := ris_15_2 n ai az ci cz w h t0 t1 t2
    try unfold IsC at q
    simpa only [Bool.false_and, Bool.true_and, Bool.and_false, Bool.and_true, Bool.or_false, Bool.false_or, Bool.true_or, Bool.or_true, decide_true] using q
  have q := ris_15_y n ai az ci cz w h t0 t1 t2
  try unfold IsC at q
  simpa only [Bool.false_and, Bool.true_and, Bool.and_false, Bool.and_true, Bool.or_false, Bool.false_or, Bool.true_or, Bool.or_true, decide_true] using q
theorem ris_16 (n : Nt) (ai az : Option Addr) (ci cz : Nat) (w : World) (h : NtL w ai az n) (hk : n.k = 16) : Calls Tryz.prog 11 #[nA n ai az ci cz] w (Gives (.bool (may n)) w) := by
  unfold nA
  rw [may_16 hk, hk]
  cases t0 : nmB n.n true
  · have q := ris_16_0 n ai az ci cz w h t0
    try unfold IsC at q
    simpa only [Bool.false_and, Bool.true_and, Bool.and_false, Bool.and_true, Bool.or_false, Bool.false_or, Bool.true_or, Bool.or_true, decide_true] using q
  cases t1 : txB n.x 2000
  · have q := ris_16_1 n ai az ci cz w h t0 t1
    try unfold IsC at q
    simpa only [Bool.false_and, Bool.true_and, Bool.and_false, Bool.and_true, Bool.or_false, Bool.false_or, Bool.true_or, Bool.or_true, decide_true] using q
  cases t2 : ((n.d.size : Int) == 8)
  · have q := ris_16_2 n ai az ci cz w h t0 t1 t2
    try unfold IsC at q
    simpa only [Bool.false_and, Bool.true_and, Bool.and_false, Bool.and_true, Bool.or_false, Bool.false_or, Bool.true_or, Bool.or_true, decide_true] using q
  have q := ris_16_y n ai az ci cz w h t0 t1 t2
  try unfold IsC at q
  simpa only [Bool.false_and, Bool.true_and, Bool.and_false, Bool.and_true, Bool.or_false, Bool.false_or, Bool.true_or, Bool.or_true, decide_true] using q
theorem ris_17 (n : Nt) (ai az : Option Addr) (ci cz : Nat) (w : World) (h : NtL w ai az n) (hk : n.k = 17) : Calls Tryz.prog 11 #[nA n ai az ci cz] w (Gives (.bool (may n)) w) := by
  unfold nA
  rw [may_17 hk, hk]
  cases t0 : inB n.t 0 4294967295
  · have q := ris_17_0 n ai az ci cz w h t0
    try unfold IsC at q
    simpa only [Bool.false_and, Bool.true_and, Bool.and_false, Bool.and_true, Bool.or_false, Bool.false_or, Bool.true_or, Bool.or_true, decide_true] using q
  cases t1 : inB n.c 0 65535
  · have q := ris_17_1 n ai az ci cz w h t0 t1
    try unfold IsC at q
    simpa only [Bool.false_and, Bool.true_and, Bool.and_false, Bool.and_true, Bool.or_false, Bool.false_or, Bool.true_or, Bool.or_true, decide_true] using q
  have q := ris_17_y n ai az ci cz w h t0 t1
  try unfold IsC at q
  simpa only [Bool.false_and, Bool.true_and, Bool.and_false, Bool.and_true, Bool.or_false, Bool.false_or, Bool.true_or, Bool.or_true, decide_true] using q
theorem ris_18 (n : Nt) (ai az : Option Addr) (ci cz : Nat) (w : World) (h : NtL w ai az n) (hk : n.k = 18) : Calls Tryz.prog 11 #[nA n ai az ci cz] w (Gives (.bool (may n)) w) := by
  unfold nA
  rw [may_18 hk, hk]
  cases t0 : (inB n.l.length 0 100 && n.l.all itB)
  · have q := ris_18_0 n ai az ci cz w h t0
    try unfold IsC at q
    simpa only [Bool.false_and, Bool.true_and, Bool.and_false, Bool.and_true, Bool.or_false, Bool.false_or, Bool.true_or, Bool.or_true, decide_true] using q
  cases t1 : inB n.t 0 4294967295
  · have q := ris_18_1 n ai az ci cz w h t0 t1
    try unfold IsC at q
    simpa only [Bool.false_and, Bool.true_and, Bool.and_false, Bool.and_true, Bool.or_false, Bool.false_or, Bool.true_or, Bool.or_true, decide_true] using q
  have q := ris_18_y n ai az ci cz w h t0 t1
  try unfold IsC at q
  simpa only [Bool.false_and, Bool.true_and, Bool.and_false, Bool.and_true, Bool.or_false, Bool.false_or, Bool.true_or, Bool.or_true, decide_true] using q
theorem ris_19 (n : Nt) (ai az : Option Addr) (ci cz : Nat) (w : World) (h : NtL w ai az n) (hk : n.k = 19) : Calls Tryz.prog 11 #[nA n ai az ci cz] w (Gives (.bool (may n)) w) := by
  unfold nA
  rw [may_19 hk, hk]
  cases t0 : inB n.t 0 4294967295
  · have q := ris_19_0 n ai az ci cz w h t0
    try unfold IsC at q
    simpa only [Bool.false_and, Bool.true_and, Bool.and_false, Bool.and_true, Bool.or_false, Bool.false_or, Bool.true_or, Bool.or_true, decide_true] using q
  cases t1 : inB n.c 0 65535
  · have q := ris_19_1 n ai az ci cz w h t0 t1
    try unfold IsC at q
    simpa only [Bool.false_and, Bool.true_and, Bool.and_false, Bool.and_true, Bool.or_false, Bool.false_or, Bool.true_or, Bool.or_true, decide_true] using q
  have q := ris_19_y n ai az ci cz w h t0 t1
  try unfold IsC at q
  simpa only [Bool.false_and, Bool.true_and, Bool.and_false, Bool.and_true, Bool.or_false, Bool.false_or, Bool.true_or, Bool.or_true, decide_true] using q
theorem ris_20 (n : Nt) (ai az : Option Addr) (ci cz : Nat) (w : World) (h : NtL w ai az n) (hk : n.k = 20) : Calls Tryz.prog 11 #[nA n ai az ci cz] w (Gives (.bool (may n)) w) := by
  unfold nA
  rw [may_20 hk, hk]
  cases t0 : (inB n.l.length 1 100 && n.l.all itB)
  · have q := ris_20_0 n ai az ci cz w h t0
    try unfold IsC at q
    simpa only [Bool.false_and, Bool.true_and, Bool.and_false, Bool.and_true, Bool.or_false, Bool.false_or, Bool.true_or, Bool.or_true, decide_true] using q
  have q := ris_20_y n ai az ci cz w h t0
  try unfold IsC at q
  simpa only [Bool.false_and, Bool.true_and, Bool.and_false, Bool.and_true, Bool.or_false, Bool.false_or, Bool.true_or, Bool.or_true, decide_true] using q
theorem ris_21 (n : Nt) (ai az : Option Addr) (ci cz : Nat) (w : World) (h : NtL w ai az n) (hk : n.k = 21) : Calls Tryz.prog 11 #[nA n ai az ci cz] w (Gives (.bool (may n)) w) := by
  unfold nA
  rw [may_21 hk, hk]
  cases t0 : (inB n.l.length 1 100 && n.l.all itB)
  · have q := ris_21_0 n ai az ci cz w h t0
    try unfold IsC at q
    simpa only [Bool.false_and, Bool.true_and, Bool.and_false, Bool.and_true, Bool.or_false, Bool.false_or, Bool.true_or, Bool.or_true, decide_true] using q
  have q := ris_21_y n ai az ci cz w h t0
  try unfold IsC at q
  simpa only [Bool.false_and, Bool.true_and, Bool.and_false, Bool.and_true, Bool.or_false, Bool.false_or, Bool.true_or, Bool.or_true, decide_true] using q
theorem ris_22 (n : Nt) (ai az : Option Addr) (ci cz : Nat) (w : World) (h : NtL w ai az n) (hk : n.k = 22) : Calls Tryz.prog 11 #[nA n ai az ci cz] w (Gives (.bool (may n)) w) := by
  unfold nA
  rw [may_22 hk, hk]
  cases t0 : (inB n.l.length 1 100 && n.l.all itB)
  · have q := ris_22_0 n ai az ci cz w h t0
    try unfold IsC at q
    simpa only [Bool.false_and, Bool.true_and, Bool.and_false, Bool.and_true, Bool.or_false, Bool.false_or, Bool.true_or, Bool.or_true, decide_true] using q
  have q := ris_22_y n ai az ci cz w h t0
  try unfold IsC at q
  simpa only [Bool.false_and, Bool.true_and, Bool.and_false, Bool.and_true, Bool.or_false, Bool.false_or, Bool.true_or, Bool.or_true, decide_true] using q
theorem ris_23 (n : Nt) (ai az : Option Addr) (ci cz : Nat) (w : World) (h : NtL w ai az n) (hk : n.k = 23) : Calls Tryz.prog 11 #[nA n ai az ci cz] w (Gives (.bool (may n)) w) := by
  unfold nA
  rw [may_23 hk, hk]
  have q := ris_23_y n ai az ci cz w h
  exact q
theorem ris_24 (n : Nt) (ai az : Option Addr) (ci cz : Nat) (w : World) (h : NtL w ai az n) (hk : n.k = 24) : Calls Tryz.prog 11 #[nA n ai az ci cz] w (Gives (.bool (may n)) w) := by
  unfold nA
  rw [may_24 hk, hk]
  have q := ris_24_y n ai az ci cz w h
  exact q
theorem ris_25 (n : Nt) (ai az : Option Addr) (ci cz : Nat) (w : World) (h : NtL w ai az n) (hk : n.k = 25) : Calls Tryz.prog 11 #[nA n ai az ci cz] w (Gives (.bool (may n)) w) := by
  unfold nA
  rw [may_25 hk, hk]
  cases t0 : (inB n.z.length 1 100 && n.z.all fun c => inB c 0 65535)
  · have q := ris_25_0 n ai az ci cz w h t0
    try unfold IsC at q
    simpa only [Bool.false_and, Bool.true_and, Bool.and_false, Bool.and_true, Bool.or_false, Bool.false_or, Bool.true_or, Bool.or_true, decide_true] using q
  have q := ris_25_y n ai az ci cz w h t0
  try unfold IsC at q
  simpa only [Bool.false_and, Bool.true_and, Bool.and_false, Bool.and_true, Bool.or_false, Bool.false_or, Bool.true_or, Bool.or_true, decide_true] using q
theorem ris_26 (n : Nt) (ai az : Option Addr) (ci cz : Nat) (w : World) (h : NtL w ai az n) (hk : n.k = 26) : Calls Tryz.prog 11 #[nA n ai az ci cz] w (Gives (.bool (may n)) w) := by
  unfold nA
  rw [may_26 hk, hk]
  cases t0 : nmB n.n true
  · have q := ris_26_0 n ai az ci cz w h t0
    try unfold IsC at q
    simpa only [Bool.false_and, Bool.true_and, Bool.and_false, Bool.and_true, Bool.or_false, Bool.false_or, Bool.true_or, Bool.or_true, decide_true] using q
  cases t1 : txB n.x 2000
  · have q := ris_26_1 n ai az ci cz w h t0 t1
    try unfold IsC at q
    simpa only [Bool.false_and, Bool.true_and, Bool.and_false, Bool.and_true, Bool.or_false, Bool.false_or, Bool.true_or, Bool.or_true, decide_true] using q
  have q := ris_26_y n ai az ci cz w h t0 t1
  try unfold IsC at q
  simpa only [Bool.false_and, Bool.true_and, Bool.and_false, Bool.and_true, Bool.or_false, Bool.false_or, Bool.true_or, Bool.or_true, decide_true] using q
theorem ris_27 (n : Nt) (ai az : Option Addr) (ci cz : Nat) (w : World) (h : NtL w ai az n) (hk : n.k = 27) : Calls Tryz.prog 11 #[nA n ai az ci cz] w (Gives (.bool (may n)) w) := by
  unfold nA
  rw [may_27 hk, hk]
  cases t0 : nmB n.n true
  · have q := ris_27_0 n ai az ci cz w h t0
    try unfold IsC at q
    simpa only [Bool.false_and, Bool.true_and, Bool.and_false, Bool.and_true, Bool.or_false, Bool.false_or, Bool.true_or, Bool.or_true, decide_true] using q
  cases t1 : txB n.x 2000
  · have q := ris_27_1 n ai az ci cz w h t0 t1
    try unfold IsC at q
    simpa only [Bool.false_and, Bool.true_and, Bool.and_false, Bool.and_true, Bool.or_false, Bool.false_or, Bool.true_or, Bool.or_true, decide_true] using q
  have q := ris_27_y n ai az ci cz w h t0 t1
  try unfold IsC at q
  simpa only [Bool.false_and, Bool.true_and, Bool.and_false, Bool.and_true, Bool.or_false, Bool.false_or, Bool.true_or, Bool.or_true, decide_true] using q
theorem ris_28 (n : Nt) (ai az : Option Addr) (ci cz : Nat) (w : World) (h : NtL w ai az n) (hk : n.k = 28) : Calls Tryz.prog 11 #[nA n ai az ci cz] w (Gives (.bool (may n)) w) := by
  unfold nA
  rw [may_28 hk, hk]
  cases t0 : nmB n.n true
  · have q := ris_28_0 n ai az ci cz w h t0
    try unfold IsC at q
    simpa only [Bool.false_and, Bool.true_and, Bool.and_false, Bool.and_true, Bool.or_false, Bool.false_or, Bool.true_or, Bool.or_true, decide_true] using q
  cases t1 : txB n.x 2000
  · have q := ris_28_1 n ai az ci cz w h t0 t1
    try unfold IsC at q
    simpa only [Bool.false_and, Bool.true_and, Bool.and_false, Bool.and_true, Bool.or_false, Bool.false_or, Bool.true_or, Bool.or_true, decide_true] using q
  have q := ris_28_y n ai az ci cz w h t0 t1
  try unfold IsC at q
  simpa only [Bool.false_and, Bool.true_and, Bool.and_false, Bool.and_true, Bool.or_false, Bool.false_or, Bool.true_or, Bool.or_true, decide_true] using q
theorem ris_29 (n : Nt) (ai az : Option Addr) (ci cz : Nat) (w : World) (h : NtL w ai az n) (hk : n.k = 29) : Calls Tryz.prog 11 #[nA n ai az ci cz] w (Gives (.bool (may n)) w) := by
  unfold nA
  rw [may_29 hk, hk]
  cases t0 : nmB n.n true
  · have q := ris_29_0 n ai az ci cz w h t0
    try unfold IsC at q
    simpa only [Bool.false_and, Bool.true_and, Bool.and_false, Bool.and_true, Bool.or_false, Bool.false_or, Bool.true_or, Bool.or_true, decide_true] using q
  cases t1 : txB n.x 2000
  · have q := ris_29_1 n ai az ci cz w h t0 t1
    try unfold IsC at q
    simpa only [Bool.false_and, Bool.true_and, Bool.and_false, Bool.and_true, Bool.or_false, Bool.false_or, Bool.true_or, Bool.or_true, decide_true] using q
  have q := ris_29_y n ai az ci cz w h t0 t1
  try unfold IsC at q
  simpa only [Bool.false_and, Bool.true_and, Bool.and_false, Bool.and_true, Bool.or_false, Bool.false_or, Bool.true_or, Bool.or_true, decide_true] using q
theorem ris_any (n : Nt) (ai az : Option Addr) (ci cz : Nat) (w : World) (h : NtL w ai az n) : Calls Tryz.prog 11 #[nA n ai az ci cz] w (Gives (.bool (may n)) w) := by
  by_cases hk : 1 ≤ n.k ∧ n.k ≤ 29
  · have hC : n.k = 1 ∨ n.k = 2 ∨ n.k = 3 ∨ n.k = 4 ∨ n.k = 5 ∨ n.k = 6 ∨ n.k = 7 ∨ n.k = 8 ∨ n.k = 9 ∨ n.k = 10 ∨ n.k = 11 ∨ n.k = 12 ∨ n.k = 13 ∨ n.k = 14 ∨ n.k = 15 ∨ n.k = 16 ∨ n.k = 17 ∨ n.k = 18 ∨ n.k = 19 ∨ n.k = 20 ∨ n.k = 21 ∨ n.k = 22 ∨ n.k = 23 ∨ n.k = 24 ∨ n.k = 25 ∨ n.k = 26 ∨ n.k = 27 ∨ n.k = 28 ∨ n.k = 29 := by omega
    rcases hC with q | q | q | q | q | q | q | q | q | q | q | q | q | q | q | q | q | q | q | q | q | q | q | q | q | q | q | q | q
    · exact ris_1 n ai az ci cz w h q
    · exact ris_2 n ai az ci cz w h q
    · exact ris_3 n ai az ci cz w h q
    · exact ris_4 n ai az ci cz w h q
    · exact ris_5 n ai az ci cz w h q
    · exact ris_6 n ai az ci cz w h q
    · exact ris_7 n ai az ci cz w h q
    · exact ris_8 n ai az ci cz w h q
    · exact ris_9 n ai az ci cz w h q
    · exact ris_10 n ai az ci cz w h q
    · exact ris_11 n ai az ci cz w h q
    · exact ris_12 n ai az ci cz w h q
    · exact ris_13 n ai az ci cz w h q
    · exact ris_14 n ai az ci cz w h q
    · exact ris_15 n ai az ci cz w h q
    · exact ris_16 n ai az ci cz w h q
    · exact ris_17 n ai az ci cz w h q
    · exact ris_18 n ai az ci cz w h q
    · exact ris_19 n ai az ci cz w h q
    · exact ris_20 n ai az ci cz w h q
    · exact ris_21 n ai az ci cz w h q
    · exact ris_22 n ai az ci cz w h q
    · exact ris_23 n ai az ci cz w h q
    · exact ris_24 n ai az ci cz w h q
    · exact ris_25 n ai az ci cz w h q
    · exact ris_26 n ai az ci cz w h q
    · exact ris_27 n ai az ci cz w h q
    · exact ris_28 n ai az ci cz w h q
    · exact ris_29 n ai az ci cz w h q
  · have e : may n = false := by
      rw [Bool.eq_false_iff]
      intro q
      exact hk (isK_iff.1 (may_iff.1 q).1)
    rw [e]
    have f : ∀ i : Int, 1 ≤ i → i ≤ 29 → (n.k == i) = false := fun i h1 h2 => beq_eq_false_iff_ne.2 (by omega)
    exact ris_k n ai az ci cz w h (f 1 (by decide) (by decide)) (f 2 (by decide) (by decide)) (f 3 (by decide) (by decide)) (f 4 (by decide) (by decide)) (f 5 (by decide) (by decide)) (f 6 (by decide) (by decide)) (f 7 (by decide) (by decide)) (f 8 (by decide) (by decide)) (f 9 (by decide) (by decide)) (f 10 (by decide) (by decide)) (f 11 (by decide) (by decide)) (f 12 (by decide) (by decide)) (f 13 (by decide) (by decide)) (f 14 (by decide) (by decide)) (f 15 (by decide) (by decide)) (f 16 (by decide) (by decide)) (f 17 (by decide) (by decide)) (f 18 (by decide) (by decide)) (f 19 (by decide) (by decide)) (f 20 (by decide) (by decide)) (f 21 (by decide) (by decide)) (f 22 (by decide) (by decide)) (f 23 (by decide) (by decide)) (f 24 (by decide) (by decide)) (f 25 (by decide) (by decide)) (f 26 (by decide) (by decide)) (f 27 (by decide) (by decide)) (f 28 (by decide) (by decide)) (f 29 (by decide) (by decide))
end Go.Proofs.YtiodjaeonoheiaaGreatDoor.T
