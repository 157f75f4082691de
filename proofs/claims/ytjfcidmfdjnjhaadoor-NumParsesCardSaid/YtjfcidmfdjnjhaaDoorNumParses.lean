/-
  The walk of the law on texts read as numbers, within bounds and parted (NumParses).
-/
import Derived.Test.YtjfcidmfdjnjhaaDoorNumLaws
import Derived.Test.YtjfcidmfdjnjhaaDoorNumCut
namespace Go.Proofs.YtjfcidmfdjnjhaaDoor.NumW
open Go.RowKit
open NumM
theorem Own.later {B : Nat} {w w' : World} {v : Value} {zs : List Int} (h : Own B w v zs) (hb : Below w.heap.size w w') : Own B w' v zs := by
  obtain ⟨h1, h2 | ⟨g, cap, cur, e, hg, hc, h3⟩⟩ := h
  · exact ⟨h1, Or.inl h2⟩
  · refine ⟨h1, Or.inr ⟨g, cap, cur, e, hg, ?_, h3⟩⟩
    rw [hb.block g]
    · exact hc
    · apply Nat.lt_of_not_le; intro hle
      rw [Array.getElem?_eq_none hle] at hc; exact absurd hc (by simp)
set_option maxHeartbeats 400000 in
theorem numParses_long (s : ByteArray) (lo hi : Int) (c : UInt8) (w : World) (hs : s.size ≤ maxLen) (ht : Tab w) (h : 300 < s.size) : Calls Tryd.prog 3 #[.string s, .agg #[.int .i64 lo, .int .i64 hi], .int .u8 c.toNat] w (IsTrue w) := by
  have HT : Hid (Tab w) := ht
  clear ht
  unfold maxLen at hs
  go_enter Tryd.func3, Tryd.ntmps3
  go_wp2_with (fail)
  have hb0 : Below w.heap.size w (w.alloc (.cells #[.int .i64 lo, .int .i64 hi] 22)) := (Below.refl _ _).alloc (Nat.le_refl _) _
  refine (awake_any _ (HT.out.later hb0)).mono ?_
  rintro e w2 ⟨rfl, hb2⟩
  go_wp2_with (fail)
  go_ret
  exact ⟨rfl, hb0.trans (hb2.mono hb0.size)⟩
theorem readAll_len : ∀ ps : List (List UInt8), (readAll ps).1.length ≤ ps.length
  | [] => Nat.le_refl _
  | p :: ps => by
    have := readAll_len ps
    unfold readAll
    split
    · split
      · simp; omega
      · simp
    · simp
theorem listE_len (l : List UInt8) (c : UInt8) : (listE l c).1.length ≤ l.length + 1 := by
  unfold listE
  split
  · simp
  · exact Nat.le_trans (readAll_len _) (cuts_len c l [])
set_option maxHeartbeats 800000 in
theorem numParses_bad (s : ByteArray) (lo hi : Int) (c : UInt8) (w : World) (hs : s.size ≤ 300) (ht : Tab w) (h : ¬ (parseE s.data.toList).2 = 0) : Calls Tryd.prog 3 #[.string s, .agg #[.int .i64 lo, .int .i64 hi], .int .u8 c.toNat] w (IsTrue w) := by
  have HT : Hid (Tab w) := ht
  clear ht
  have hml : s.size ≤ maxLen := by unfold maxLen; omega
  have hmt : s.size ≤ 1099511627776 := by omega
  have hq := bq_no h
  have hB : betweenE s.data.toList lo hi = parseE s.data.toList := by unfold betweenE; rw [if_neg (fun x => h x.1)]
  have hlz : Hid ((listE s.data.toList c).1.length ≤ 1099511627776) := Lib.hid (by have := listE_len s.data.toList c; rw [len_size] at this; omega)
  go_enter Tryd.func3, Tryd.ntmps3
  go_wp2_with (fail)
  have hb0 : Below w.heap.size w (w.alloc (.cells #[.int .i64 lo, .int .i64 hi] 22)) := (Below.refl _ _).alloc (Nat.le_refl _) _
  have c0 : (w.alloc (.cells #[.int .i64 lo, .int .i64 hi] 22)).cell? ⟨w.heap.size, 0, none⟩ = some (.int .i64 lo) := by rw [World.cell?_alloc_at _ _ _ _ rfl]; rfl
  have c1 : (w.alloc (.cells #[.int .i64 lo, .int .i64 hi] 22)).cell? ⟨w.heap.size, 1, none⟩ = some (.int .i64 hi) := by rw [World.cell?_alloc_at _ _ _ _ rfl]; rfl
  have hz0 : w.heap.size < (w.alloc (.cells #[.int .i64 lo, .int .i64 hi] 22)).heap.size := by simp
  generalize w.alloc (.cells #[.int .i64 lo, .int .i64 hi] 22) = w0 at *
  refine (parse_any _ _ hml).mono ?_
  rintro e w' ⟨rfl, rfl⟩
  go_wp2_with (fail)
  refine (between_any _ _ _ _ hml).mono ?_
  rintro e w' ⟨rfl, rfl⟩
  go_wp2_with (fail)
  refine (list_any _ _ _ hmt).mono ?_
  rintro e w1 ⟨v1, rfl, ho1, hb1⟩
  go_wp2_with (fail)
  refine (refParse_any _ _ hml).mono ?_
  rintro e w' ⟨rfl, rfl⟩
  go_wp2_with (fail)
  refine (refList_any _ _ _ hmt).mono ?_
  rintro e w2 ⟨v2, rfl, ho2, hb2⟩
  go_wp2_with (fail)
  refine (same_eq _ _ _ _ _ _ (ho1.later hb2) ho2 hlz.out).mono ?_
  rintro e w3 ⟨rfl, hb3⟩
  have hB : Below w0.heap.size w0 w3 := hb1.trans ((hb2.trans (hb3.mono hb2.size)).mono hb1.size)
  have d0 : w3.cell? ⟨w.heap.size, 0, none⟩ = some (.int .i64 lo) := (hB.cell (p := ⟨w.heap.size, 0, none⟩) hz0).trans c0
  have d1 : w3.cell? ⟨w.heap.size, 1, none⟩ = some (.int .i64 hi) := (hB.cell (p := ⟨w.heap.size, 1, none⟩) hz0).trans c1
  have hBB : Below w.heap.size w w3 := hb0.trans (hB.mono hb0.size)
  clear hb1 hb2 hb3 ho1 ho2 c0 c1
  go_wp2_with (fail)
  refine (awake_any _ (HT.out.later hBB)).mono ?_
  rintro e w4 ⟨rfl, hb4⟩
  go_wp2_with (fail)
  go_ret
  exact ⟨rfl, hBB.trans (hb4.mono hBB.size)⟩
set_option maxHeartbeats 800000 in
theorem numParses_low (s : ByteArray) (lo hi : Int) (c : UInt8) (w : World) (hs : s.size ≤ 300) (ht : Tab w) (h : (parseE s.data.toList).2 = 0) (h1 : (parseE s.data.toList).1 < lo) : Calls Tryd.prog 3 #[.string s, .agg #[.int .i64 lo, .int .i64 hi], .int .u8 c.toNat] w (IsTrue w) := by
  have HT : Hid (Tab w) := ht
  clear ht
  have hml : s.size ≤ maxLen := by unfold maxLen; omega
  have hmt : s.size ≤ 1099511627776 := by omega
  have hB : betweenE s.data.toList lo hi = (0, 6) := by unfold betweenE; rw [if_pos ⟨h, Or.inl h1⟩]
  have hlz : Hid ((listE s.data.toList c).1.length ≤ 1099511627776) := Lib.hid (by have := listE_len s.data.toList c; rw [len_size] at this; omega)
  go_enter Tryd.func3, Tryd.ntmps3
  go_wp2_with (fail)
  have hb0 : Below w.heap.size w (w.alloc (.cells #[.int .i64 lo, .int .i64 hi] 22)) := (Below.refl _ _).alloc (Nat.le_refl _) _
  have c0 : (w.alloc (.cells #[.int .i64 lo, .int .i64 hi] 22)).cell? ⟨w.heap.size, 0, none⟩ = some (.int .i64 lo) := by rw [World.cell?_alloc_at _ _ _ _ rfl]; rfl
  have c1 : (w.alloc (.cells #[.int .i64 lo, .int .i64 hi] 22)).cell? ⟨w.heap.size, 1, none⟩ = some (.int .i64 hi) := by rw [World.cell?_alloc_at _ _ _ _ rfl]; rfl
  have hz0 : w.heap.size < (w.alloc (.cells #[.int .i64 lo, .int .i64 hi] 22)).heap.size := by simp
  generalize w.alloc (.cells #[.int .i64 lo, .int .i64 hi] 22) = w0 at *
  refine (parse_any _ _ hml).mono ?_
  rintro e w' ⟨rfl, rfl⟩
  go_wp2_with (fail)
  refine (between_any _ _ _ _ hml).mono ?_
  rintro e w' ⟨rfl, rfl⟩
  go_wp2_with (fail)
  refine (list_any _ _ _ hmt).mono ?_
  rintro e w1 ⟨v1, rfl, ho1, hb1⟩
  go_wp2_with (fail)
  refine (refParse_any _ _ hml).mono ?_
  rintro e w' ⟨rfl, rfl⟩
  go_wp2_with (fail)
  refine (refList_any _ _ _ hmt).mono ?_
  rintro e w2 ⟨v2, rfl, ho2, hb2⟩
  go_wp2_with (fail)
  refine (same_eq _ _ _ _ _ _ (ho1.later hb2) ho2 hlz.out).mono ?_
  rintro e w3 ⟨rfl, hb3⟩
  have hB : Below w0.heap.size w0 w3 := hb1.trans ((hb2.trans (hb3.mono hb2.size)).mono hb1.size)
  have d0 : w3.cell? ⟨w.heap.size, 0, none⟩ = some (.int .i64 lo) := (hB.cell (p := ⟨w.heap.size, 0, none⟩) hz0).trans c0
  have d1 : w3.cell? ⟨w.heap.size, 1, none⟩ = some (.int .i64 hi) := (hB.cell (p := ⟨w.heap.size, 1, none⟩) hz0).trans c1
  have hBB : Below w.heap.size w w3 := hb0.trans (hB.mono hb0.size)
  clear hb1 hb2 hb3 ho1 ho2 c0 c1
  go_wp2_with (fail)
  refine (awake_any _ (HT.out.later hBB)).mono ?_
  rintro e w4 ⟨rfl, hb4⟩
  go_wp2_with (fail)
  go_ret
  exact ⟨rfl, hBB.trans (hb4.mono hBB.size)⟩
set_option maxHeartbeats 800000 in
theorem numParses_high (s : ByteArray) (lo hi : Int) (c : UInt8) (w : World) (hs : s.size ≤ 300) (ht : Tab w) (h : (parseE s.data.toList).2 = 0) (h0 : ¬ (parseE s.data.toList).1 < lo) (h1 : hi < (parseE s.data.toList).1) : Calls Tryd.prog 3 #[.string s, .agg #[.int .i64 lo, .int .i64 hi], .int .u8 c.toNat] w (IsTrue w) := by
  have HT : Hid (Tab w) := ht
  clear ht
  have hml : s.size ≤ maxLen := by unfold maxLen; omega
  have hmt : s.size ≤ 1099511627776 := by omega
  have hB : betweenE s.data.toList lo hi = (0, 6) := by unfold betweenE; rw [if_pos ⟨h, Or.inr h1⟩]
  have hlz : Hid ((listE s.data.toList c).1.length ≤ 1099511627776) := Lib.hid (by have := listE_len s.data.toList c; rw [len_size] at this; omega)
  go_enter Tryd.func3, Tryd.ntmps3
  go_wp2_with (fail)
  have hb0 : Below w.heap.size w (w.alloc (.cells #[.int .i64 lo, .int .i64 hi] 22)) := (Below.refl _ _).alloc (Nat.le_refl _) _
  have c0 : (w.alloc (.cells #[.int .i64 lo, .int .i64 hi] 22)).cell? ⟨w.heap.size, 0, none⟩ = some (.int .i64 lo) := by rw [World.cell?_alloc_at _ _ _ _ rfl]; rfl
  have c1 : (w.alloc (.cells #[.int .i64 lo, .int .i64 hi] 22)).cell? ⟨w.heap.size, 1, none⟩ = some (.int .i64 hi) := by rw [World.cell?_alloc_at _ _ _ _ rfl]; rfl
  have hz0 : w.heap.size < (w.alloc (.cells #[.int .i64 lo, .int .i64 hi] 22)).heap.size := by simp
  generalize w.alloc (.cells #[.int .i64 lo, .int .i64 hi] 22) = w0 at *
  refine (parse_any _ _ hml).mono ?_
  rintro e w' ⟨rfl, rfl⟩
  go_wp2_with (fail)
  refine (between_any _ _ _ _ hml).mono ?_
  rintro e w' ⟨rfl, rfl⟩
  go_wp2_with (fail)
  refine (list_any _ _ _ hmt).mono ?_
  rintro e w1 ⟨v1, rfl, ho1, hb1⟩
  go_wp2_with (fail)
  refine (refParse_any _ _ hml).mono ?_
  rintro e w' ⟨rfl, rfl⟩
  go_wp2_with (fail)
  refine (refList_any _ _ _ hmt).mono ?_
  rintro e w2 ⟨v2, rfl, ho2, hb2⟩
  go_wp2_with (fail)
  refine (same_eq _ _ _ _ _ _ (ho1.later hb2) ho2 hlz.out).mono ?_
  rintro e w3 ⟨rfl, hb3⟩
  have hB : Below w0.heap.size w0 w3 := hb1.trans ((hb2.trans (hb3.mono hb2.size)).mono hb1.size)
  have d0 : w3.cell? ⟨w.heap.size, 0, none⟩ = some (.int .i64 lo) := (hB.cell (p := ⟨w.heap.size, 0, none⟩) hz0).trans c0
  have d1 : w3.cell? ⟨w.heap.size, 1, none⟩ = some (.int .i64 hi) := (hB.cell (p := ⟨w.heap.size, 1, none⟩) hz0).trans c1
  have hBB : Below w.heap.size w w3 := hb0.trans (hB.mono hb0.size)
  clear hb1 hb2 hb3 ho1 ho2 c0 c1
  go_wp2_with (fail)
  refine (awake_any _ (HT.out.later hBB)).mono ?_
  rintro e w4 ⟨rfl, hb4⟩
  go_wp2_with (fail)
  go_ret
  exact ⟨rfl, hBB.trans (hb4.mono hBB.size)⟩
set_option maxHeartbeats 800000 in
theorem numParses_in (s : ByteArray) (lo hi : Int) (c : UInt8) (w : World) (hs : s.size ≤ 300) (ht : Tab w) (h : (parseE s.data.toList).2 = 0) (h0 : ¬ (parseE s.data.toList).1 < lo) (h1 : ¬ hi < (parseE s.data.toList).1) : Calls Tryd.prog 3 #[.string s, .agg #[.int .i64 lo, .int .i64 hi], .int .u8 c.toNat] w (IsTrue w) := by
  have HT : Hid (Tab w) := ht
  clear ht
  have hml : s.size ≤ maxLen := by unfold maxLen; omega
  have hmt : s.size ≤ 1099511627776 := by omega
  have hB : betweenE s.data.toList lo hi = parseE s.data.toList := by unfold betweenE; rw [if_neg (fun x => by omega)]
  have hlz : Hid ((listE s.data.toList c).1.length ≤ 1099511627776) := Lib.hid (by have := listE_len s.data.toList c; rw [len_size] at this; omega)
  go_enter Tryd.func3, Tryd.ntmps3
  go_wp2_with (fail)
  have hb0 : Below w.heap.size w (w.alloc (.cells #[.int .i64 lo, .int .i64 hi] 22)) := (Below.refl _ _).alloc (Nat.le_refl _) _
  have c0 : (w.alloc (.cells #[.int .i64 lo, .int .i64 hi] 22)).cell? ⟨w.heap.size, 0, none⟩ = some (.int .i64 lo) := by rw [World.cell?_alloc_at _ _ _ _ rfl]; rfl
  have c1 : (w.alloc (.cells #[.int .i64 lo, .int .i64 hi] 22)).cell? ⟨w.heap.size, 1, none⟩ = some (.int .i64 hi) := by rw [World.cell?_alloc_at _ _ _ _ rfl]; rfl
  have hz0 : w.heap.size < (w.alloc (.cells #[.int .i64 lo, .int .i64 hi] 22)).heap.size := by simp
  generalize w.alloc (.cells #[.int .i64 lo, .int .i64 hi] 22) = w0 at *
  refine (parse_any _ _ hml).mono ?_
  rintro e w' ⟨rfl, rfl⟩
  go_wp2_with (fail)
  refine (between_any _ _ _ _ hml).mono ?_
  rintro e w' ⟨rfl, rfl⟩
  go_wp2_with (fail)
  refine (list_any _ _ _ hmt).mono ?_
  rintro e w1 ⟨v1, rfl, ho1, hb1⟩
  go_wp2_with (fail)
  refine (refParse_any _ _ hml).mono ?_
  rintro e w' ⟨rfl, rfl⟩
  go_wp2_with (fail)
  refine (refList_any _ _ _ hmt).mono ?_
  rintro e w2 ⟨v2, rfl, ho2, hb2⟩
  go_wp2_with (fail)
  refine (same_eq _ _ _ _ _ _ (ho1.later hb2) ho2 hlz.out).mono ?_
  rintro e w3 ⟨rfl, hb3⟩
  have hB : Below w0.heap.size w0 w3 := hb1.trans ((hb2.trans (hb3.mono hb2.size)).mono hb1.size)
  have d0 : w3.cell? ⟨w.heap.size, 0, none⟩ = some (.int .i64 lo) := (hB.cell (p := ⟨w.heap.size, 0, none⟩) hz0).trans c0
  have d1 : w3.cell? ⟨w.heap.size, 1, none⟩ = some (.int .i64 hi) := (hB.cell (p := ⟨w.heap.size, 1, none⟩) hz0).trans c1
  have hBB : Below w.heap.size w w3 := hb0.trans (hB.mono hb0.size)
  clear hb1 hb2 hb3 ho1 ho2 c0 c1
  go_wp2_with (fail)
  refine (awake_any _ (HT.out.later hBB)).mono ?_
  rintro e w4 ⟨rfl, hb4⟩
  go_wp2_with (fail)
  go_ret
  exact ⟨rfl, hBB.trans (hb4.mono hBB.size)⟩
theorem numParses_walk (s : ByteArray) (lo hi : Int) (c : UInt8) (w : World) (hs : s.size ≤ maxLen) (ht : Tab w) : Calls Tryd.prog 3 #[.string s, .agg #[.int .i64 lo, .int .i64 hi], .int .u8 c.toNat] w (IsTrue w) := by
  by_cases h1 : 300 < s.size
  · exact numParses_long s lo hi c w hs ht h1
  · by_cases h : (parseE s.data.toList).2 = 0
    · by_cases h2 : (parseE s.data.toList).1 < lo
      · exact numParses_low s lo hi c w (by omega) ht h h2
      · by_cases h3 : hi < (parseE s.data.toList).1
        · exact numParses_high s lo hi c w (by omega) ht h h2 h3
        · exact numParses_in s lo hi c w (by omega) ht h h2 h3
    · exact numParses_bad s lo hi c w (by omega) ht h
end Go.Proofs.YtjfcidmfdjnjhaaDoor.NumW
