/-
  package quot: a number's digits: contracts over the translation.
-/
import Derived.Test.YtiklebonkpjlpaaDoorQuot6
import Derived.Test.YtiklebonkpjlpaaDoorFmt
import Derived.Test.YtiklebonkpjlpaaDoorDecMath
import Derived.Test.YtiklebonkpjlpaaDoorReads
import Derived.Deep.LoopGhost
namespace KM
open Go Go.RowKit
theorem KW.grown_alloc {W : World} {L : List Ent} (u : KW W L) {o : Obj} {w' : World} {row : Option Nat} {B1 : Nat} (hg : (u.w.alloc o).grownBy w' row) (hr : ∀ k, row = some k → B1 ≤ k) (hW : W.heap.size ≤ B1) (hL : ∀ e ∈ L, e.g < B1) : ∃ u' : KW W L, w' = u'.w ∧ u.w.heap.size ≤ w'.heap.size := by
  obtain ⟨ua, hua⟩ := u.go ((Below.refl u.w.heap.size u.w).alloc (Nat.le_refl _) o)
  have hs : u.w.heap.size ≤ (u.w.alloc o).heap.size := by simp
  rw [hua] at hg hs
  obtain ⟨u', hu'⟩ := ua.grown hg hr hW hL
  exact ⟨u', hu', Nat.le_trans hs hg.size⟩
end KM
namespace Go.Proofs.YtiklebonkpjlpaaDoor.QuotW
open Go.RowKit
open DigM WideM WideV KM DigW WideW QuotM DecM FmtW
open Go.Lib (decDigits nDigits)
theorem ba_size (l : List UInt8) : (ByteArray.mk l.toArray).size = l.length := by simp [ByteArray.size]
theorem ba_append (l m : List UInt8) : ByteArray.mk l.toArray ++ ByteArray.mk m.toArray = ByteArray.mk (l ++ m).toArray := by
  apply ByteArray.ext
  rw [ByteArray.data_append]
  simp
theorem ba_ext {s t : ByteArray} (h : s.data.toList = t.data.toList) : s = t := ByteArray.ext (Array.toList_inj.1 h)
theorem ba_len (s : ByteArray) : s.size = s.data.toList.length := by rw [Array.length_toList]; rfl
theorem ret_str {a b : ByteArray} (h : a = b) : Ending.returned (.string a) = .returned (.string b) := by rw [h]
set_option maxHeartbeats 800000 in
theorem filled_any (n : Nat) (hn : Hid (n < 10000000000000000000)) (w : World) (ht : Tab w) : Calls Tryd.prog 36 #[.int .u64 n] w (Ret (.string ⟨(pad 19 n).toArray⟩) w) := by
  have hd19 : nDigits n ≤ 19 := nDig_le 18 n (by have := hn.out; omega)
  obtain ⟨s, hs⟩ : ∃ s : ByteArray, s = ⟨(decDigits n).toArray⟩ := ⟨_, rfl⟩
  have HF : Hid (∀ w, Tab w → Calls Tryd.prog 37 #[.int .u64 n, .int .i64 10] w (Ret (.string s) w)) := Lib.hid (fun w ht => by rw [hs]; exact fmt_any n w (Lib.hid (by have := hn.out; omega)) ht)
  have hsz : s.size = nDigits n := by rw [hs, ba_size, Lib.decDigits_length]
  obtain ⟨x, hx⟩ : ∃ x : ByteArray, x = ⟨(List.replicate (19 - nDigits n) 48).toArray⟩ := ⟨_, rfl⟩
  have hxz : x.size = 19 - nDigits n := by rw [hx, ba_size, List.length_replicate]
  have HE : Hid (x ++ s = ⟨(pad 19 n).toArray⟩) := Lib.hid (by rw [hx, hs, ba_append]; rfl)
  have FR : ∀ w, Calls Tryd.prog 50 #[.string ⟨#[48]⟩, .int .i64 (19 - (nDigits n : Int))] w (Ret (.string x) w) := fun w => by
    have := Tryd.strings_Repeat ⟨#[48]⟩ (19 - nDigits n) w (by omega) (by rw [show (ByteArray.mk #[48]).size = 1 from rfl]; omega)
    rw [show ((19 - nDigits n : Nat) : Int) = 19 - (nDigits n : Int) by omega, show (ByteArray.mk #[48]).data.toList = [48] from rfl, repeat48, ← hx] at this
    exact this
  have HFR := Lib.hid FR
  have HT := Lib.hid ht
  generalize nDigits n = d at *
  clear FR hs hx ht
  go_enter Tryd.func36, Tryd.ntmps36
  go_wp2_with (fail)
  refine (HF.out _ HT.out).mono ?_
  rintro e w1 ⟨rfl, b1⟩
  go_wp2_with (fail)
  refine (HFR.out _).mono ?_
  rintro e w2 ⟨rfl, b2⟩
  go_wp2_with (fail)
  go_ret
  exact ⟨ret_str HE.out, b1.trans (b2.mono b1.size)⟩
end Go.Proofs.YtiklebonkpjlpaaDoor.QuotW
