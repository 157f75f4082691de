/-
  num's List: a contract over the translation.
-/
import Derived.Test.YtjfcidmfdjnjhaaDoorNumWalk
import Derived.Test.YtjfcidmfdjnjhaaDoorNumListMath
import Derived.WalkSmall
import Derived.OwnWalk
namespace Go.Proofs.YtjfcidmfdjnjhaaDoor.NumW
open Go.RowKit
open NumM
theorem ret_snd {v : Value} {a b : Int} (h : a = b) : Ending.returned (.tuple #[v, .int .i64 a]) = .returned (.tuple #[v, .int .i64 b]) := by rw [h]
theorem ext_seg (s : ByteArray) (f k : Nat) : (s.extract f k).data.toList = seg s.data.toList f k := by rw [Lib.extract_data]; rfl
theorem infoInt : (Tryd.prog.info? 3).map (fun i => (i.zero, i.size, i.bytes)) = some (some (.int .i64 0), 1, 8) := by kernel_rfl
/-- numbers that a call made and owns, in new memory -/
def Own (B : Nat) (w : World) (v : Value) (zs : List Int) : Prop := w.ownsRow B 3 1 v zs.length (zs.map (Value.int .i64))
theorem Own.nil (B : Nat) (w : World) : Own B w (.slice none 0 0) [] := World.ownsRow_nil _ _ _ _
def LRel (s : ByteArray) (c : UInt8) (w : World) (v f i : Value) (wr : World) : Prop :=
  ∃ (k fr : Nat) (done : List (List UInt8)) (zs : List Int), i = .int .i64 k ∧ f = .int .i64 fr ∧ Own w.heap.size wr v zs ∧ Below w.heap.size w wr ∧ Are done zs ∧ zs.length ≤ k ∧ At c s.data.toList k fr done
def LPost (s : ByteArray) (c : UInt8) (w : World) (e : Ending) (w' : World) : Prop :=
  ∃ v, e = .returned (.tuple #[v, .int .i64 (listE s.data.toList c).2]) ∧ Own w.heap.size w' v (listE s.data.toList c).1 ∧ Below w.heap.size w w'
theorem get_at (s : ByteArray) (k : Nat) (h : k < s.size) : s.data.toList[k]'(by rw [len_size]; exact h) = s[k] := rfl
theorem byte_eq (a c : UInt8) (h : (a.toNat : Int) = (c.toNat : Int)) : a = c := UInt8.toNat_inj.1 (by omega)
theorem byte_ne (a c : UInt8) (h : ¬ (a.toNat : Int) = (c.toNat : Int)) : ¬ a = c := fun e => h (by rw [e])
set_option maxHeartbeats 1600000 in
theorem list_any (s : ByteArray) (c : UInt8) (w : World) (hs : s.size ≤ 1099511627776) :
    Calls Tryd.prog 9 #[.string s, .int .u8 c.toNat] w (LPost s c w) := by
  by_cases h0 : s.size = 0
  · have h1 := tl_nil s h0
    have h2 := nil_of s h0
    have HL : Hid (listE s.data.toList c = ([], 0)) := Lib.hid (by rw [h2]; rfl)
    clear h2
    go_enter Tryd.func9, Tryd.ntmps9
    go_wp2
    go_ret2
    exact ⟨_, ret_snd (by rw [HL.out]), by rw [HL.out]; exact Own.nil _ _, Below.refl _ _⟩
  have hp : 0 < s.size := by omega
  have hne := tl_ne s hp
  have hie := tl_ie s hp
  obtain ⟨i0, hi, hz0, hz1, hz2⟩ := info_parts infoInt
  have HL : Hid (listE s.data.toList c = readAll (cuts c [] s.data.toList)) := Lib.hid (by
    unfold listE; rw [if_neg]; rw [← ByteArray.toList_eq]; exact hne)
  go_enter Tryd.func9, Tryd.ntmps9
  go_wp2
  go_loopw [6, 7, 16] (LRel s c w) (fun _ _ i _ => s.size + 1 - (intOf i).toNat)
  case atStart => exact ⟨0, 0, [], [], rfl, rfl, Own.nil _ _, Below.refl _ _, Are.nil, Nat.le_refl _, At.start _ _⟩
  case round =>
    obtain ⟨k, fr, done, zs, rfl, rfl, hown, hnx, hare, hzk, hat⟩ := hrel
    have hle := hat.le
    rw [len_size] at hle
    obtain ⟨hfk, hk1⟩ := hle
    have HA := Lib.hid hat
    clear hat
    by_cases hlt : k < s.size
    · by_cases hc : (s[k].toNat : Int) = (c.toNat : Int)
      · have Hc := Lib.hid (byte_eq _ _ hc)
        go_wp2_with (fail)
        have htd : Hid (seg s.data.toList fr k = (s.extract fr k).data.toList) := Lib.hid (ext_seg s fr k).symm
        have hts : (s.extract fr k).size ≤ maxLen := by
          have := len_size (s.extract fr k)
          rw [ext_seg] at this; rw [← this]; unfold seg maxLen; rw [List.length_take, List.length_drop, len_size]; omega
        generalize s.extract fr k = t at *
        refine (parse_any t _ hts).mono ?_
        rintro e w' ⟨rfl, rfl⟩
        by_cases herr : (parseE t.data.toList).2 = 0
        · have Hare := Lib.hid (hare.snoc (seg s.data.toList fr k) (by rw [htd.out]; exact herr))
          rw [show ((parseE (seg s.data.toList fr k)).1 = (parseE t.data.toList).1) from by rw [htd.out]] at Hare
          generalize (parseE t.data.toList).1 = x at *
          go_wp2_with (first
            | (at_builtin; refine wpList_append_own _ rfl _ _ 28 rfl w.heap.size 3 i0 (.int .i64 0) 1 8 Tryd.underlying28 hi hz0 hz1 hz2 rfl (by decide) _ _ _ rfl (World.ownsRow.alloc hown _) ⟨wr.heap.size, 0, none⟩ 1 1 [.int .i64 x] rfl rfl ?c1 ?c2 ?c3 ?c4 ?c5 ?_))
          case c1 =>
            intro j u hj
            match j, hj with
            | 0, hj => simp at hj; subst hj; simp [Addr.add]
          case c2 => intro u hu; simp at hu; subst hu; rfl
          case c3 => unfold maxLen; omega
          case c4 => omega
          case c5 => have := hnx.size; simp; omega
          intro v' w1 hown' hgrow _
          have hnx' : Below w.heap.size w w1 := Below.grown (hnx.alloc hnx.size _) hgrow (by have := hnx.size; simp; omega) (fun j hj => (hown.lt j hj).1)
          clear hgrow
          go_wp2_with (fail)
          go_roundw
          case rel => exact ⟨k + 1, k + 1, done ++ [seg s.data.toList fr k], zs ++ [x], by go_num, by go_num, by unfold Own; rw [List.length_append, List.map_append]; exact hown', hnx', Hare.out, by simp; omega, HA.out.sep (by rw [len_size]; exact hlt) Hc.out⟩
          case measure => simp [intOf]; omega
        · obtain ⟨rest, hrest⟩ := HA.out.next (by rw [len_size]; omega) (Or.inr ⟨by rw [len_size]; exact hlt, Hc.out⟩)
          have hr := readAll_bad done zs (seg s.data.toList fr k) rest hare (by rw [htd.out]; exact herr)
          rw [← hrest, htd.out] at hr
          have HR := Lib.hid hr
          clear hr hrest
          go_wp2_with (fail)
          go_ret2
          exact ⟨_, ret_snd (by rw [HL.out, HR.out]), by rw [HL.out, HR.out]; exact Own.nil _ _, hnx⟩
      · go_wp2
        go_roundw
        case rel => exact ⟨k + 1, fr, done, zs, by go_num, rfl, hown, hnx, hare, by omega, HA.out.on (by rw [len_size]; exact hlt) (byte_ne _ _ hc)⟩
        case measure => simp [intOf]; omega
    · by_cases hend : k = s.size
      · subst hend
        have hlt2 : (s.size : Int) < s.size + 1 := by omega
        go_wp2_with (fail)
        have htd : Hid (seg s.data.toList fr s.size = (s.extract fr s.size).data.toList) := Lib.hid (ext_seg s fr s.size).symm
        have hts : (s.extract fr s.size).size ≤ maxLen := by
          have := len_size (s.extract fr s.size)
          rw [ext_seg] at this; rw [← this]; unfold seg maxLen; rw [List.length_take, List.length_drop, len_size]; omega
        generalize s.extract fr s.size = t at *
        refine (parse_any t _ hts).mono ?_
        rintro e w' ⟨rfl, rfl⟩
        by_cases herr : (parseE t.data.toList).2 = 0
        · have Hare := Lib.hid (hare.snoc (seg s.data.toList fr s.size) (by rw [htd.out]; exact herr))
          rw [show ((parseE (seg s.data.toList fr s.size)).1 = (parseE t.data.toList).1) from by rw [htd.out]] at Hare
          generalize (parseE t.data.toList).1 = x at *
          go_wp2_with (first
            | (at_builtin; refine wpList_append_own _ rfl _ _ 28 rfl w.heap.size 3 i0 (.int .i64 0) 1 8 Tryd.underlying28 hi hz0 hz1 hz2 rfl (by decide) _ _ _ rfl (World.ownsRow.alloc hown _) ⟨wr.heap.size, 0, none⟩ 1 1 [.int .i64 x] rfl rfl ?c1 ?c2 ?c3 ?c4 ?c5 ?_))
          case c1 =>
            intro j u hj
            match j, hj with
            | 0, hj => simp at hj; subst hj; simp [Addr.add]
          case c2 => intro u hu; simp at hu; subst hu; rfl
          case c3 => unfold maxLen; omega
          case c4 => omega
          case c5 => have := hnx.size; simp; omega
          intro v' w1 hown' hgrow _
          have hnx' : Below w.heap.size w w1 := Below.grown (hnx.alloc hnx.size _) hgrow (by have := hnx.size; simp; omega) (fun j hj => (hown.lt j hj).1)
          clear hgrow
          go_wp2_with (fail)
          go_roundw
          case rel => exact ⟨s.size + 1, s.size + 1, done ++ [seg s.data.toList fr s.size], zs ++ [x], by go_num, by go_num, by unfold Own; rw [List.length_append, List.map_append]; exact hown', hnx', Hare.out, by simp; omega, HA.out.last (len_size s).symm⟩
          case measure => simp [intOf]
        · obtain ⟨rest, hrest⟩ := HA.out.next (by rw [len_size]; omega) (Or.inl (len_size s).symm)
          have hr := readAll_bad done zs (seg s.data.toList fr s.size) rest hare (by rw [htd.out]; exact herr)
          rw [← hrest, htd.out] at hr
          have HR := Lib.hid hr
          clear hr hrest
          go_wp2_with (fail)
          go_ret2
          exact ⟨_, ret_snd (by rw [HL.out, HR.out]), by rw [HL.out, HR.out]; exact Own.nil _ _, hnx⟩
      · go_wp2
        go_ret2
        have hd := HA.out.over (by rw [len_size]; omega)
        have hr := readAll_end done zs hare
        rw [← hd] at hr
        exact ⟨_, ret_snd (by rw [HL.out, hr]), by rw [HL.out, hr]; exact hown, hnx⟩
end Go.Proofs.YtjfcidmfdjnjhaaDoor.NumW
