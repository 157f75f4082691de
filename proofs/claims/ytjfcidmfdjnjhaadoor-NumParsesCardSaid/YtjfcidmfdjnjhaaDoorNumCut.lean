/-
  The document's own Cut, List and Same of layer 1: contracts over the translation.
-/
import Derived.Test.YtjfcidmfdjnjhaaDoorNumList
import Derived.Test.YtjfcidmfdjnjhaaDoorNumRef
import Derived.Deep.QuietTactic
import Derived.BigQuiet
namespace Go.Proofs.YtjfcidmfdjnjhaaDoor.NumW
open Go.RowKit
open NumM
theorem infoStr : (Tryd.prog.info? 9).map (fun i => (i.zero, i.size, i.bytes)) = some (some (.string ⟨#[]⟩), 1, 16) := by kernel_rfl
def strV (p : List UInt8) : Value := .string ⟨p.toArray⟩
theorem ext_strV (s : ByteArray) (f k : Nat) : Value.string (s.extract f k) = strV (seg s.data.toList f k) := by
  unfold strV
  refine vstr (ByteArray.ext ?_)
  apply Array.toList_inj.1
  rw [ext_seg]
def OwnS (B : Nat) (w : World) (v : Value) (ps : List (List UInt8)) : Prop := w.ownsRow B 9 1 v ps.length (ps.map strV)
def CRel (s : ByteArray) (c : UInt8) (w : World) (v f i : Value) (wr : World) : Prop :=
  ∃ (k fr : Nat) (done : List (List UInt8)), i = .int .i64 k ∧ f = .int .i64 fr ∧ OwnS w.heap.size wr v done ∧ Below w.heap.size w wr ∧ done.length ≤ k ∧ At c s.data.toList k fr done
def CPost (s : ByteArray) (c : UInt8) (w : World) (e : Ending) (w' : World) : Prop :=
  ∃ v, e = .returned v ∧ OwnS w.heap.size w' v (cuts c [] s.data.toList) ∧ Below w.heap.size w w'
set_option maxHeartbeats 1600000 in
theorem cut_any (s : ByteArray) (c : UInt8) (w : World) (hs : s.size ≤ 1099511627776) :
    Calls Tryd.prog 18 #[.string s, .int .u8 c.toNat] w (CPost s c w) := by
  obtain ⟨i0, hi, hz0, hz1, hz2⟩ := info_parts infoStr
  go_enter Tryd.func18, Tryd.ntmps18
  go_wp2
  go_loopw [5, 6, 7] (CRel s c w) (fun _ _ i _ => s.size + 1 - (intOf i).toNat)
  case atStart => 
    exact ⟨0, 0, [], rfl, rfl, World.ownsRow_made _ _ _ (Nat.le_refl _) (by decide) rfl, (Below.refl _ _).alloc (Nat.le_refl _) _, Nat.le_refl _, At.start _ _⟩
  case round =>
    obtain ⟨k, fr, done, rfl, rfl, hown, hnx, hzk, hat⟩ := hrel
    have hle := hat.le
    rw [len_size] at hle
    obtain ⟨hfk, hk1⟩ := hle
    have HA := Lib.hid hat
    clear hat
    by_cases hlt : k < s.size
    · have hkb := bq_no (show ¬ (k : Int) = (s.size : Int) from by omega)
      by_cases hc : (s[k].toNat : Int) = (c.toNat : Int)
      · have Hc := Lib.hid (byte_eq _ _ hc)
        have hcb := bq_yes hc
        clear hc
        go_wp2_with (first
          | (at_builtin; refine wpList_append_own _ rfl _ _ 39 rfl w.heap.size 9 i0 (.string ⟨#[]⟩) 1 16 Tryd.underlying39 hi hz0 hz1 hz2 rfl (by decide) _ _ _ rfl (World.ownsRow.alloc hown _) ⟨wr.heap.size, 0, none⟩ 1 1 [.string (s.extract fr k)] rfl rfl ?c1 ?c2 ?c3 ?c4 ?c5 ?_))
        case c1 =>
          intro j u hj
          match j, hj with
          | 0, hj => simp at hj; subst hj; simp [Addr.add]
        case c2 => intro u hu; simp at hu; subst hu; rfl
        case c3 => unfold maxLen; omega
        case c4 => omega
        case c5 => have := hnx.size; simp; omega
        intro v' w1 hown' hgrow _
        have hnx' : Below w.heap.size w w1 := Below.grown (hnx.alloc hnx.size _) hgrow (by have := hnx.size; simp; omega) (fun j hj => (hown.lt j hj).1)
        clear hgrow
        rw [ext_strV] at hown'
        have HO : Hid (OwnS w.heap.size w1 v' (done ++ [seg s.data.toList fr k])) := Lib.hid (by unfold OwnS; rw [List.length_append, List.map_append]; exact hown')
        clear hown'
        go_wp2_with (fail)
        go_roundw
        case rel => exact ⟨k + 1, k + 1, done ++ [seg s.data.toList fr k], by go_num, by go_num, HO.out, hnx', by simp; omega, HA.out.sep (by rw [len_size]; exact hlt) Hc.out⟩
        case measure => simp [intOf]; omega
      · have hcb := bq_no hc
        go_wp2
        go_roundw
        case rel => exact ⟨k + 1, fr, done, by go_num, rfl, hown, hnx, by omega, HA.out.on (by rw [len_size]; exact hlt) (byte_ne _ _ hc)⟩
        case measure => simp [intOf]; omega
    · by_cases hend : k = s.size
      · subst hend
        have hkb := bq_yes (show (s.size : Int) = (s.size : Int) from rfl)
        go_wp2_with (first
          | (at_builtin; refine wpList_append_own _ rfl _ _ 39 rfl w.heap.size 9 i0 (.string ⟨#[]⟩) 1 16 Tryd.underlying39 hi hz0 hz1 hz2 rfl (by decide) _ _ _ rfl (World.ownsRow.alloc hown _) ⟨wr.heap.size, 0, none⟩ 1 1 [.string (s.extract fr s.size)] rfl rfl ?c1 ?c2 ?c3 ?c4 ?c5 ?_))
        case c1 =>
          intro j u hj
          match j, hj with
          | 0, hj => simp at hj; subst hj; simp [Addr.add]
        case c2 => intro u hu; simp at hu; subst hu; rfl
        case c3 => unfold maxLen; omega
        case c4 => omega
        case c5 => have := hnx.size; simp; omega
        intro v' w1 hown' hgrow _
        have hnx' : Below w.heap.size w w1 := Below.grown (hnx.alloc hnx.size _) hgrow (by have := hnx.size; simp; omega) (fun j hj => (hown.lt j hj).1)
        clear hgrow
        rw [ext_strV] at hown'
        have HO : Hid (OwnS w.heap.size w1 v' (done ++ [seg s.data.toList fr s.size])) := Lib.hid (by unfold OwnS; rw [List.length_append, List.map_append]; exact hown')
        clear hown'
        go_wp2_with (fail)
        go_roundw
        case rel => exact ⟨s.size + 1, s.size + 1, done ++ [seg s.data.toList fr s.size], by go_num, by go_num, HO.out, hnx', by simp; omega, HA.out.last (len_size s).symm⟩
        case measure => simp [intOf]
      · go_wp2
        go_ret
        have hd := HA.out.over (by rw [len_size]; omega)
        exact ⟨_, rfl, by rw [hd]; exact hown, hnx⟩
/-- what a row of strings lays in memory -/
theorem OwnS.at {B : Nat} {w : World} {v : Value} {ps : List (List UInt8)} (h : OwnS B w v ps) (hne : 0 < ps.length) : ∃ g cap, v = .slice (some ⟨g, 0, none⟩) ps.length cap ∧ B ≤ g ∧ g < w.heap.size ∧ ∀ j (hj : j < ps.length), w.cell? ⟨g, j, none⟩ = some (strV ps[j]) := by
  have hc := fun g => World.ownsRow.cells h (g := g)
  have hlt := h.lt
  obtain ⟨_, hh | ⟨g, cap, cur, rfl, hB, _, _, _, _, _⟩⟩ := h
  · omega
  · refine ⟨g, cap, rfl, hB, (hlt g rfl).2, fun j hj => ?_⟩
    have := hc g rfl j (strV ps[j]) (by simp [hj])
    cases j with
    | zero => simpa [Addr.add] using this
    | succ j => simpa [Addr.add] using this
theorem cuts_ne (c : UInt8) : ∀ (l cur : List UInt8), 0 < (cuts c cur l).length
  | [], cur => by simp [cuts]
  | a :: t, cur => by
    unfold cuts
    split
    · simp
    · exact cuts_ne c t _
theorem strV_len (p : List UInt8) : (ByteArray.mk p.toArray).size = p.length := by simp [ByteArray.size]
theorem cuts_part (c : UInt8) (n : Nat) : ∀ (l cur : List UInt8), cur.length + l.length ≤ n → ∀ p ∈ cuts c cur l, p.length ≤ n
  | [], cur, h, p, hp => by simp [cuts] at hp; subst hp; simpa using h
  | a :: t, cur, h, p, hp => by
    unfold cuts at hp
    simp at h
    split at hp
    · rcases List.mem_cons.1 hp with rfl | hp
      · omega
      · exact cuts_part c n t [] (by simp; omega) p hp
    · exact cuts_part c n t _ (by simp; omega) p hp
def IsTrue' (w : World) (e : Ending) (w' : World) : Prop := e = .returned (.bool true) ∧ Below w.heap.size w w'
theorem own_mono {B B' : Nat} {w : World} {v : Value} {zs : List Int} (h : Own B' w v zs) (hB : B ≤ B') : Own B w v zs := by
  obtain ⟨h1, h2 | ⟨g, cap, cur, e, hg, h3⟩⟩ := h
  · exact ⟨h1, Or.inl h2⟩
  · exact ⟨h1, Or.inr ⟨g, cap, cur, e, by omega, h3⟩⟩
/-- behind k parts that are numbers -/
def RLRel (ps : List (List UInt8)) (w1 : World) (v i : Value) (wr : World) : Prop :=
  ∃ (k : Nat) (zs : List Int), i = .int .i64 k ∧ k ≤ ps.length ∧ zs.length = k ∧ Own w1.heap.size wr v zs ∧ Below w1.heap.size w1 wr ∧ Are (ps.take k) zs
theorem part_eq (ps : List (List UInt8)) (k : Nat) (h : k < ps.length) : ps.take (k + 1) = ps.take k ++ [ps[k]] := List.take_succ_eq_append_getElem h
theorem parts_at (ps : List (List UInt8)) (k : Nat) (h : k < ps.length) : ps = ps.take k ++ ps[k] :: ps.drop (k + 1) := by
  rw [← List.drop_eq_getElem_cons h, List.take_append_drop]
set_option maxHeartbeats 1600000 in
theorem refList_any (s : ByteArray) (c : UInt8) (w : World) (hs : s.size ≤ 1099511627776) :
    Calls Tryd.prog 11 #[.string s, .int .u8 c.toNat] w (LPost s c w) := by
  by_cases h0 : s.size = 0
  · have h1 := tl_nil s h0
    have h2 := nil_of s h0
    have HL : Hid (listE s.data.toList c = ([], 0)) := Lib.hid (by rw [h2]; rfl)
    clear h2
    go_enter Tryd.func11, Tryd.ntmps11
    go_wp2
    go_ret2
    exact ⟨_, ret_snd (by rw [HL.out]), by rw [HL.out]; exact Own.nil _ _, Below.refl _ _⟩
  have hp : 0 < s.size := by omega
  have hne := tl_ne s hp
  obtain ⟨i0, hi, hz0, hz1, hz2⟩ := info_parts infoInt
  have HL : Hid (listE s.data.toList c = readAll (cuts c [] s.data.toList)) := Lib.hid (by
    unfold listE; rw [if_neg]; rw [← ByteArray.toList_eq]; exact hne)
  have hb0 := bq_no (show ¬ (s.size : Int) = 0 from by omega)
  go_enter Tryd.func11, Tryd.ntmps11
  go_wp2_with (fail)
  refine (cut_any s c w hs).mono ?_
  rintro e w1 ⟨v, rfl, hS, hb1⟩
  have hpn := cuts_ne c s.data.toList []
  have hpl := cuts_len c s.data.toList []
  have hpp := cuts_part c s.size s.data.toList [] (by rw [len_size]; simp)
  rw [len_size] at hpl
  generalize cuts c [] s.data.toList = ps at *
  obtain ⟨g, cap, rfl, hBg, hgs, hcell⟩ := hS.at hpn
  clear hS
  have HC := Lib.hid hcell
  have HPP := Lib.hid hpp
  clear hcell hpp
  go_wp2
  go_loopw [7, 8] (RLRel ps w1) (fun _ i _ => ps.length - (intOf i).toNat)
  case atStart =>
    exact ⟨0, [], rfl, Nat.zero_le _, rfl, World.ownsRow_made _ _ _ (Nat.le_refl _) (by decide) rfl, (Below.refl _ _).alloc (Nat.le_refl _) _, Are.nil⟩
  case round =>
    obtain ⟨k, zs, rfl, hk, hzk, hown, hnx, hare⟩ := hrel
    by_cases hlt : k < ps.length
    · have hc : wr.cell? ⟨g, k, none⟩ = some (strV ps[k]) := (hnx.cell (p := ⟨g, k, none⟩) hgs).trans (HC.out k hlt)
      have hlen := HPP.out ps[k] (List.getElem_mem hlt)
      unfold strV at hc
      have hts : (ByteArray.mk ps[k].toArray).size ≤ maxLen := by rw [strV_len]; unfold maxLen; omega
      have htd : Hid ((ByteArray.mk ps[k].toArray).data.toList = ps[k]) := Lib.hid (by simp)
      generalize ByteArray.mk ps[k].toArray = t at *
      go_wp2_with (fail)
      refine (refParse_any t _ hts).mono ?_
      rintro e w' ⟨rfl, rfl⟩
      by_cases herr : (parseE t.data.toList).2 = 0
      · have Hare := Lib.hid (hare.snoc ps[k] (by rw [← htd.out]; exact herr))
        rw [show ((parseE ps[k]).1 = (parseE t.data.toList).1) from by rw [htd.out]] at Hare
        generalize (parseE t.data.toList).1 = x at *
        go_wp2_with (first
          | (at_builtin; refine wpList_append_own _ rfl _ _ 28 rfl w1.heap.size 3 i0 (.int .i64 0) 1 8 Tryd.underlying28 hi hz0 hz1 hz2 rfl (by decide) _ _ _ rfl (World.ownsRow.alloc hown _) ⟨wr.heap.size, 0, none⟩ 1 1 [.int .i64 x] rfl rfl ?c1 ?c2 ?c3 ?c4 ?c5 ?_))
        case c1 =>
          intro j u hj
          match j, hj with
          | 0, hj => simp at hj; subst hj; simp [Addr.add]
        case c2 => intro u hu; simp at hu; subst hu; rfl
        case c3 => unfold maxLen; omega
        case c4 => omega
        case c5 => have := hnx.size; simp; omega
        intro v' w2 hown' hgrow _
        have hnx' : Below w1.heap.size w1 w2 := Below.grown (hnx.alloc hnx.size _) hgrow (by have := hnx.size; simp; omega) (fun j hj => (hown.lt j hj).1)
        have HO : Hid (Own w1.heap.size w2 v' (zs ++ [x])) := Lib.hid (by unfold Own; rw [List.length_append, List.map_append, hzk]; exact hown')
        clear hgrow hown'
        go_wp2_with (fail)
        go_roundw
        case rel => exact ⟨k + 1, zs ++ [x], by go_num, by omega, by simp; omega, HO.out, hnx', by rw [part_eq ps k hlt]; exact Hare.out⟩
        case measure => simp [intOf]; omega
      · have hr := readAll_bad (ps.take k) zs ps[k] (ps.drop (k + 1)) hare (by rw [← htd.out]; exact herr)
        rw [← parts_at ps k hlt] at hr
        have HR := Lib.hid hr
        clear hr
        go_wp2_with (fail)
        go_ret2
        exact ⟨_, ret_snd (by rw [HL.out, HR.out, htd.out]), by rw [HL.out, HR.out]; exact Own.nil _ _, hb1.trans (hnx.mono hb1.size)⟩
    · have hr := readAll_end (ps.take k) zs hare
      rw [List.take_of_length_le (by omega)] at hr
      have HR := Lib.hid hr
      clear hr
      go_wp2
      go_ret2
      exact ⟨_, ret_snd (by rw [HL.out, HR.out]), by rw [HL.out, HR.out]; exact own_mono hown hb1.size, hb1.trans (hnx.mono hb1.size)⟩
/-- what a row of numbers lays in memory -/
theorem Own.shape {B : Nat} {w : World} {v : Value} {zs : List Int} (h : Own B w v zs) : ∃ a cap, v = .slice a zs.length cap ∧ ∀ j (hj : j < zs.length), ∃ g, a = some ⟨g, 0, none⟩ ∧ g < w.heap.size ∧ w.cell? ⟨g, j, none⟩ = some (.int .i64 zs[j]) := by
  have hc := fun g => World.ownsRow.cells h (g := g)
  have hlt := h.lt
  obtain ⟨_, ⟨rfl, hn⟩ | ⟨g, cap, cur, rfl, hB, _, _, _, _, _⟩⟩ := h
  · exact ⟨none, 0, by rw [hn], fun j hj => by omega⟩
  · refine ⟨some ⟨g, 0, none⟩, cap, rfl, fun j hj => ⟨g, rfl, (hlt g rfl).2, ?_⟩⟩
    have := hc g rfl j (.int .i64 zs[j]) (by simp [hj])
    cases j with
    | zero => simpa [Addr.add] using this
    | succ j => simpa [Addr.add] using this
set_option maxHeartbeats 1600000 in
theorem same_eq (B B' : Nat) (a b : Value) (zs : List Int) (w : World) (ha : Own B w a zs) (hb : Own B' w b zs) (hz : zs.length ≤ 1099511627776) :
    Calls Tryd.prog 12 #[a, b] w (IsTrue' w) := by
  obtain ⟨a0, ca, rfl, hca⟩ := ha.shape
  obtain ⟨b0, cb, rfl, hcb⟩ := hb.shape
  have HA := Lib.hid hca
  have HB := Lib.hid hcb
  clear hca hcb ha hb
  have hl0 := bq_yes (show (zs.length : Int) = (zs.length : Int) from rfl)
  go_enter Tryd.func12, Tryd.ntmps12
  go_wp2
  go_loopw [5] (fun i wr => ∃ (k : Nat) (n : Nat), i = .int .i64 k ∧ k ≤ zs.length ∧ wr = w.drewN n) (fun i _ => zs.length - (intOf i).toNat)
  case atStart => exact ⟨0, 0, rfl, Nat.zero_le _, rfl⟩
  case round =>
    obtain ⟨k, n, rfl, hk, rfl⟩ := hrel
    by_cases hlt : k < zs.length
    · obtain ⟨g, rfl, hg, hc⟩ := HA.out k hlt
      obtain ⟨g', rfl, hg', hc'⟩ := HB.out k hlt
      go_wp2_with (fail)
      go_quiet (fail)
      go_wp2
      go_show
      go_roundw
      case rel => exact ⟨k + 1, _, by go_num, by omega, rfl⟩
      case measure => simp [intOf]; omega
    · go_wp2
      go_ret
      exact ⟨rfl, below_drewN (Below.refl _ _) n⟩
end Go.Proofs.YtjfcidmfdjnjhaaDoor.NumW
