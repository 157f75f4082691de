/-
  num's Text, the layer's own example ('awake'), and the walks of the laws on texts: contracts over the translation.
-/
import Derived.Test.YtjfcidmfdjnjhaaDoorNumText
import Derived.Test.YtjfcidmfdjnjhaaDoorShelf
import Derived.WalkSmall
namespace Go.Proofs.YtjfcidmfdjnjhaaDoor.NumW
open Go.RowKit
open NumM
open Go.Lib (decDigits itoa nDigits)

/-- the library's table of powers of ten holds what its initialiser lays -/
def Tab (w : World) : Prop := Lib.TabIs Tryd.prog w "internal/strconv.uint64pow10" .u64 Lib.pow10Tab
theorem Tab.later {w w' : World} (h : Tab w) (hb : Below w.heap.size w w') : Tab w' := by
  have h' := h
  unfold Tab Lib.TabIs at h ⊢
  have hg : Tryd.prog.globalNamed "internal/strconv.uint64pow10" = some 0 := by kernel_rfl
  refine var?_below hb hg ?_ h
  unfold World.var? at h
  rw [hg] at h
  simp only [Option.bind_some] at h
  apply Nat.lt_of_not_le; intro hc
  rw [Array.getElem?_eq_none hc] at h
  exact absurd h (by simp)
theorem below_grew (w : World) (k : Nat) (os : Array Obj) : Below w.heap.size w (Sort.grow (w.drewN k) os) :=
  ⟨rfl, rfl, rfl, by rw [Sort.size_grow]; exact Nat.le_add_right _ _, fun j hj => Sort.heap_grow_old (w.drewN k) os hj⟩
def Txt (n : Int) (w : World) (e : Ending) (w' : World) : Prop := e = .returned (.string ⟨(itoa n).toArray⟩) ∧ Below w.heap.size w w'
theorem text_any (n : Int) (w : World) (h1 : -9223372036854775808 ≤ n) (h2 : n ≤ 9223372036854775807) (ht : Tab w) :
    Calls Tryd.prog 13 #[.int .i64 n] w (Txt n w) := by
  have HT : Hid (Tab w) := ht
  clear ht
  go_enter Tryd.func13, Tryd.ntmps13
  go_wp2_with (fail)
  refine (Tryd.strconv_Itoa n h1 h2 _ HT.out).mono ?_
  rintro e w' ⟨rfl, k, os, rfl⟩
  have hb : Below w.heap.size w (Sort.grow (w.drewN k) os) := below_grew w k os
  generalize Sort.grow (w.drewN k) os = w1 at *
  go_wp2_with (fail)
  go_ret
  exact ⟨rfl, hb⟩
def IsTrue (w : World) (e : Ending) (w' : World) : Prop := e = .returned (.bool true) ∧ Below w.heap.size w w'
set_option maxHeartbeats 400000 in
theorem awake_any (w : World) (ht : Tab w) : Calls Tryd.prog 6 #[] w (IsTrue w) := by
  have HT : Hid (Tab w) := ht
  clear ht
  have p1 : parseE [45, 49, 48, 53] = (-105, 0) := by decide
  have p2 : parseE [45, 48] = (0, 2) := by decide
  have p3 : itoa (-105) = [45, 49, 48, 53] := by
    unfold itoa; rw [if_pos (by decide)]
    show 45 :: decDigits 105 = _
    rw [decDigits_big (by decide), decDigits_big (by decide), decDigits_small (by decide)]; rfl
  have p4 : nDigits 105 = 3 := by rw [Go.Lib.nDigits_big (by decide), Go.Lib.nDigits_big (by decide), Go.Lib.nDigits_small (by decide)]
  go_enter Tryd.func6, Tryd.ntmps6
  go_wp2_with (fail)
  refine (parse_any _ _ (by decide)).mono ?_
  rintro e w' ⟨rfl, rfl⟩
  go_wp2_with (fail)
  refine (parse_any _ _ (by decide)).mono ?_
  rintro e w' ⟨rfl, rfl⟩
  go_wp2_with (fail)
  refine (text_any _ _ (by decide) (by decide) HT.out).mono ?_
  rintro e w' ⟨rfl, hb⟩
  go_wp2_with (fail)
  refine (digits_any _ _ (by decide) (by decide)).mono ?_
  rintro e w1 ⟨rfl, rfl⟩
  go_wp2_with (fail)
  go_ret
  exact ⟨rfl, hb⟩
theorem ofl_size (l : List UInt8) : (ByteArray.mk l.toArray).size = l.length := by simp [ByteArray.size]
set_option maxHeartbeats 400000 in
theorem numTexts_1 (n : Int) (w : World) (h1 : -9223372036854775808 ≤ n) (h2 : n ≤ 9223372036854775807) (ht : Tab w) (hn : n < 0) (hr : -1152921504606846976 ≤ n) : Calls Tryd.prog 4 #[.int .i64 n] w (IsTrue w) := by
  have HT : Hid (Tab w) := ht
  clear ht
  have hl := len_itoa n
  have hd := nDig_le n.natAbs (by omega)
  have hlen : (itoa n).length ≤ 20 := by rw [hl]; split <;> omega
  have hp := parse_itoa n
  rw [if_pos (by omega)] at hp
  have hq := bq_yes (show ((nDigits n.natAbs : Nat) : Int) = ((itoa n).length : Int) - 1 from by rw [hl]; rw [if_pos hn]; omega)
  have hs : (ByteArray.mk (itoa n).toArray).size ≤ maxLen := by rw [ofl_size]; unfold maxLen; omega
  clear hl
  go_enter Tryd.func4, Tryd.ntmps4
  go_wp2_with (fail)
  refine (text_any _ _ h1 h2 HT.out).mono ?_
  rintro e w1 ⟨rfl, hb⟩
  go_wp2_with (fail)
  refine (refText_any _ _ h1 h2).mono ?_
  rintro e w1' ⟨rfl, rfl⟩
  go_wp2_with (fail)
  refine (parse_any _ _ hs).mono ?_
  rintro e w1' ⟨rfl, rfl⟩
  go_wp2_with (fail)
  refine (digits_any _ _ h1 h2).mono ?_
  rintro e w1' ⟨rfl, rfl⟩
  go_wp2_with (fail)
  refine (awake_any _ (HT.out.later hb)).mono ?_
  rintro e w2 ⟨rfl, hb2⟩
  go_wp2_with (fail)
  go_ret
  exact ⟨rfl, hb.trans (hb2.mono hb.size)⟩
set_option maxHeartbeats 400000 in
theorem numTexts_2 (n : Int) (w : World) (h1 : -9223372036854775808 ≤ n) (h2 : n ≤ 9223372036854775807) (ht : Tab w) (hn : n < 0) (hr : n < -1152921504606846976) : Calls Tryd.prog 4 #[.int .i64 n] w (IsTrue w) := by
  have HT : Hid (Tab w) := ht
  clear ht
  have hl := len_itoa n
  have hd := nDig_le n.natAbs (by omega)
  have hlen : (itoa n).length ≤ 20 := by rw [hl]; split <;> omega
  have hp := parse_itoa n
  rw [if_neg (by omega)] at hp
  have hq := bq_yes (show ((nDigits n.natAbs : Nat) : Int) = ((itoa n).length : Int) - 1 from by rw [hl]; rw [if_pos hn]; omega)
  have hs : (ByteArray.mk (itoa n).toArray).size ≤ maxLen := by rw [ofl_size]; unfold maxLen; omega
  clear hl
  go_enter Tryd.func4, Tryd.ntmps4
  go_wp2_with (fail)
  refine (text_any _ _ h1 h2 HT.out).mono ?_
  rintro e w1 ⟨rfl, hb⟩
  go_wp2_with (fail)
  refine (refText_any _ _ h1 h2).mono ?_
  rintro e w1' ⟨rfl, rfl⟩
  go_wp2_with (fail)
  refine (parse_any _ _ hs).mono ?_
  rintro e w1' ⟨rfl, rfl⟩
  go_wp2_with (fail)
  refine (digits_any _ _ h1 h2).mono ?_
  rintro e w1' ⟨rfl, rfl⟩
  go_wp2_with (fail)
  refine (awake_any _ (HT.out.later hb)).mono ?_
  rintro e w2 ⟨rfl, hb2⟩
  go_wp2_with (fail)
  go_ret
  exact ⟨rfl, hb.trans (hb2.mono hb.size)⟩
set_option maxHeartbeats 400000 in
theorem numTexts_3 (n : Int) (w : World) (h1 : -9223372036854775808 ≤ n) (h2 : n ≤ 9223372036854775807) (ht : Tab w) (hn : ¬ n < 0) (hr : n ≤ 1152921504606846976) : Calls Tryd.prog 4 #[.int .i64 n] w (IsTrue w) := by
  have HT : Hid (Tab w) := ht
  clear ht
  have hl := len_itoa n
  have hd := nDig_le n.natAbs (by omega)
  have hlen : (itoa n).length ≤ 20 := by rw [hl]; split <;> omega
  have hp := parse_itoa n
  rw [if_pos (by omega)] at hp
  have hq := bq_yes (show ((nDigits n.natAbs : Nat) : Int) = ((itoa n).length : Int) from by rw [hl]; rw [if_neg hn]; omega)
  have hs : (ByteArray.mk (itoa n).toArray).size ≤ maxLen := by rw [ofl_size]; unfold maxLen; omega
  clear hl
  go_enter Tryd.func4, Tryd.ntmps4
  go_wp2_with (fail)
  refine (text_any _ _ h1 h2 HT.out).mono ?_
  rintro e w1 ⟨rfl, hb⟩
  go_wp2_with (fail)
  refine (refText_any _ _ h1 h2).mono ?_
  rintro e w1' ⟨rfl, rfl⟩
  go_wp2_with (fail)
  refine (parse_any _ _ hs).mono ?_
  rintro e w1' ⟨rfl, rfl⟩
  go_wp2_with (fail)
  refine (digits_any _ _ h1 h2).mono ?_
  rintro e w1' ⟨rfl, rfl⟩
  go_wp2_with (fail)
  refine (awake_any _ (HT.out.later hb)).mono ?_
  rintro e w2 ⟨rfl, hb2⟩
  go_wp2_with (fail)
  go_ret
  exact ⟨rfl, hb.trans (hb2.mono hb.size)⟩
set_option maxHeartbeats 400000 in
theorem numTexts_4 (n : Int) (w : World) (h1 : -9223372036854775808 ≤ n) (h2 : n ≤ 9223372036854775807) (ht : Tab w) (hn : ¬ n < 0) (hr : 1152921504606846976 < n) : Calls Tryd.prog 4 #[.int .i64 n] w (IsTrue w) := by
  have HT : Hid (Tab w) := ht
  clear ht
  have hl := len_itoa n
  have hd := nDig_le n.natAbs (by omega)
  have hlen : (itoa n).length ≤ 20 := by rw [hl]; split <;> omega
  have hp := parse_itoa n
  rw [if_neg (by omega)] at hp
  have hq := bq_yes (show ((nDigits n.natAbs : Nat) : Int) = ((itoa n).length : Int) from by rw [hl]; rw [if_neg hn]; omega)
  have hs : (ByteArray.mk (itoa n).toArray).size ≤ maxLen := by rw [ofl_size]; unfold maxLen; omega
  clear hl
  go_enter Tryd.func4, Tryd.ntmps4
  go_wp2_with (fail)
  refine (text_any _ _ h1 h2 HT.out).mono ?_
  rintro e w1 ⟨rfl, hb⟩
  go_wp2_with (fail)
  refine (refText_any _ _ h1 h2).mono ?_
  rintro e w1' ⟨rfl, rfl⟩
  go_wp2_with (fail)
  refine (parse_any _ _ hs).mono ?_
  rintro e w1' ⟨rfl, rfl⟩
  go_wp2_with (fail)
  refine (digits_any _ _ h1 h2).mono ?_
  rintro e w1' ⟨rfl, rfl⟩
  go_wp2_with (fail)
  refine (awake_any _ (HT.out.later hb)).mono ?_
  rintro e w2 ⟨rfl, hb2⟩
  go_wp2_with (fail)
  go_ret
  exact ⟨rfl, hb.trans (hb2.mono hb.size)⟩
theorem numTexts_walk (n : Int) (w : World) (h1 : -9223372036854775808 ≤ n) (h2 : n ≤ 9223372036854775807) (ht : Tab w) : Calls Tryd.prog 4 #[.int .i64 n] w (IsTrue w) := by
  by_cases hn : n < 0
  · by_cases hr : -1152921504606846976 ≤ n
    · exact numTexts_1 n w h1 h2 ht hn hr
    · exact numTexts_2 n w h1 h2 ht hn (by omega)
  · by_cases hr : n ≤ 1152921504606846976
    · exact numTexts_3 n w h1 h2 ht hn hr
    · exact numTexts_4 n w h1 h2 ht hn (by omega)
theorem itoa_at (s : ByteArray) (h : (parseE s.data.toList).2 = 0) : (ByteArray.mk (itoa (parseE s.data.toList).1).toArray).toList = s.toList := by
  rw [itoa_parse _ h, ByteArray.toList_eq]
theorem numOne_long (s : ByteArray) (w : World) (hs : s.size ≤ maxLen) (ht : Tab w) (h : 300 < s.size) : Calls Tryd.prog 5 #[.string s] w (IsTrue w) := by
  have HT : Hid (Tab w) := ht
  clear ht
  unfold maxLen at hs
  go_enter Tryd.func5, Tryd.ntmps5
  go_wp2_with (fail)
  refine (awake_any _ HT.out).mono ?_
  rintro e w2 ⟨rfl, hb2⟩
  go_wp2_with (fail)
  go_ret
  exact ⟨rfl, hb2⟩
theorem numOne_bad (s : ByteArray) (w : World) (hs : s.size ≤ 300) (ht : Tab w) (h : ¬ (parseE s.data.toList).2 = 0) : Calls Tryd.prog 5 #[.string s] w (IsTrue w) := by
  have HT : Hid (Tab w) := ht
  clear ht
  have hq := bq_no h
  go_enter Tryd.func5, Tryd.ntmps5
  go_wp2_with (fail)
  refine (parse_any _ _ (by unfold maxLen; omega)).mono ?_
  rintro e w2 ⟨rfl, rfl⟩
  go_wp2_with (fail)
  refine (awake_any _ HT.out).mono ?_
  rintro e w2 ⟨rfl, hb2⟩
  go_wp2_with (fail)
  go_ret
  exact ⟨rfl, hb2⟩
theorem numOne_read (s : ByteArray) (w : World) (hs : s.size ≤ 300) (ht : Tab w) (h : (parseE s.data.toList).2 = 0) : Calls Tryd.prog 5 #[.string s] w (IsTrue w) := by
  have HT : Hid (Tab w) := ht
  clear ht
  have hbd := parseE_bd s.data.toList
  have hI := itoa_at s h
  go_enter Tryd.func5, Tryd.ntmps5
  go_wp2_with (fail)
  refine (parse_any _ _ (by unfold maxLen; omega)).mono ?_
  rintro e w2 ⟨rfl, rfl⟩
  go_wp2_with (fail)
  refine (text_any _ _ (by omega) (by omega) HT.out).mono ?_
  rintro e w1 ⟨rfl, hb⟩
  go_wp2_with (fail)
  refine (awake_any _ (HT.out.later hb)).mono ?_
  rintro e w2 ⟨rfl, hb2⟩
  go_wp2_with (fail)
  go_ret
  exact ⟨rfl, hb.trans (hb2.mono hb.size)⟩
theorem numOne_walk (s : ByteArray) (w : World) (hs : s.size ≤ maxLen) (ht : Tab w) : Calls Tryd.prog 5 #[.string s] w (IsTrue w) := by
  by_cases h1 : 300 < s.size
  · exact numOne_long s w hs ht h1
  · by_cases h : (parseE s.data.toList).2 = 0
    · exact numOne_read s w (by omega) ht h
    · exact numOne_bad s w (by omega) ht h
end Go.Proofs.YtjfcidmfdjnjhaaDoor.NumW
