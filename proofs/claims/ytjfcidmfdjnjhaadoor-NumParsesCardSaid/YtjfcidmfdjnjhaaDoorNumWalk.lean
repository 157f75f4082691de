/-
  What package num's Parse and what it stands on answer, call by call: contracts over the translation.
-/
import Derived.Test.YtjfcidmfdjnjhaaDoorRows
import Derived.WalkKit
import Derived.Outline
import Derived.LoopTactic
import Derived.WalkSpells
import Derived.IntWalk
import Derived.Lib.Hide
import Derived.Lib.Strings
import Derived.Test.YtjfcidmfdjnjhaaDoorNumMath
namespace Go.Proofs.YtjfcidmfdjnjhaaDoor.NumW
open Go.RowKit
open NumM

theorem len_size (s : ByteArray) : s.data.toList.length = s.size := by simp
theorem headD_get : ∀ (l : List UInt8) (h : 0 < l.length), l.headD 0 = l[0]
  | _ :: _, _ => rfl
theorem headD_at (s : ByteArray) (h : 0 < s.size) : s.data.toList.headD 0 = s[0] := by
  have hl := len_size s
  have h0 : 0 < s.data.toList.length := by omega
  have : s.data.toList[0] = s[0] := rfl
  rw [← this]
  exact headD_get _ h0
theorem nil_of (s : ByteArray) (h : s.size = 0) : s.data.toList = [] := List.eq_nil_of_length_eq_zero (by rw [len_size]; exact h)
theorem tl_nil (s : ByteArray) (h : s.size = 0) : s.toList = [] := by rw [ByteArray.toList_eq]; exact nil_of s h
theorem tl_ne (s : ByteArray) (h : 0 < s.size) : ¬ s.toList = [] := by
  rw [ByteArray.toList_eq]; intro e
  have hl := len_size s
  rw [e] at hl; simp at hl; omega
theorem tl_ie (s : ByteArray) (h : 0 < s.size) : s.toList.isEmpty = false := by
  have := tl_ne s h
  cases e : s.toList with
  | nil => exact absurd e this
  | cons a l => rfl
theorem ie_data (s : ByteArray) (h : 0 < s.size) : s.data.toList.isEmpty = false := by
  rw [← ByteArray.toList_eq]; exact tl_ie s h
theorem ret_bool {a b : Bool} (h : a = b) : Ending.returned (.bool a) = .returned (.bool b) := by rw [h]
theorem ret_int {k : IntKind} {a b : Int} (h : a = b) : Ending.returned (.int k a) = .returned (.int k b) := by rw [h]
theorem vint {k : IntKind} {a b : Int} (h : a = b) : Value.int k a = .int k b := by rw [h]
theorem vbool {a b : Bool} (h : a = b) : Value.bool a = .bool b := by rw [h]
theorem vstr {a b : ByteArray} (h : a = b) : Value.string a = .string b := by rw [h]
theorem ret_two {a b c d : Value} (h : a = b) (h' : c = d) : Ending.returned (.tuple #[a, c]) = .returned (.tuple #[b, d]) := by rw [h, h']
theorem ret_one {a b : Value} (h : a = b) : Ending.returned a = .returned b := by rw [h]
theorem beq48_iff (c : UInt8) : (c == 48) = true ↔ (c.toNat : Int) = 48 := by
  rw [beq_iff_eq]
  constructor
  · intro e; rw [e]; rfl
  · intro e; apply UInt8.toNat_inj.1; show c.toNat = 48; omega
theorem beq48_no (c : UInt8) (h : ¬ (c.toNat : Int) = 48) : (c == 48) = false := by
  cases e : c == 48 with
  | false => rfl
  | true => exact absurd ((beq48_iff c).1 e) h
theorem isD_of (c : UInt8) (h1 : 48 ≤ (c.toNat : Int)) (h2 : (c.toNat : Int) ≤ 57) : isD c = true := by rw [isD_iff]; omega
theorem isD_no (c : UInt8) (h : ¬ (48 ≤ (c.toNat : Int) ∧ (c.toNat : Int) ≤ 57)) : isD c = false := by
  cases e : isD c with
  | false => rfl
  | true => exact absurd ((isD_iff c).1 e) (by omega)
theorem all_snoc (s : ByteArray) (k : Nat) (hk : k < s.size) (h : (s.data.toList.take k).all isD = true) (hd : isD s[k] = true) : (s.data.toList.take (k + 1)).all isD = true := by
  rw [take_snoc s k hk, List.all_append, h, List.all_cons, hd]; rfl
theorem all_stop (s : ByteArray) (k : Nat) (hk : k < s.size) (hd : isD s[k] = false) : s.data.toList.all isD = false := by
  cases e : s.data.toList.all isD with
  | false => rfl
  | true =>
    rw [List.all_eq_true] at e
    have : s[k] ∈ s.data.toList := by
      have : s.data.toList[k]'(by rw [len_size]; exact hk) = s[k] := rfl
      rw [← this]; exact List.getElem_mem _
    rw [e _ this] at hd; exact hd
theorem take_all (s : ByteArray) (k : Nat) (hk : s.size ≤ k) : s.data.toList.take k = s.data.toList := List.take_of_length_le (by rw [len_size]; exact hk)
theorem areD_empty (s : ByteArray) (h : s.size = 0) : areD s.data.toList = false := by rw [nil_of s h]; rfl
theorem areD_zero (s : ByteArray) (h : 1 < s.size) (h48 : (s[0].toNat : Int) = 48) : areD s.data.toList = false := by
  unfold areD
  rw [headD_at s (by omega), (beq48_iff _).2 h48, len_size]; simp [h]
theorem areD_else (s : ByteArray) (h : 0 < s.size) (h48 : (s[0].toNat : Int) ≠ 48 ∨ s.size ≤ 1) : areD s.data.toList = s.data.toList.all isD := by
  unfold areD
  rw [headD_at s h, ie_data s h, len_size]
  rcases h48 with h48 | h48
  · rw [beq48_no _ h48]; simp
  · rw [decide_eq_false (by omega : ¬ 1 < s.size)]; simp

def AreD (s : ByteArray) (w : World) (e : Ending) (w' : World) : Prop := e = .returned (.bool (areD s.data.toList)) ∧ w = w'
set_option maxHeartbeats 400000 in
theorem areDigits_any (s : ByteArray) (w : World) (hs : s.size ≤ maxLen) :
    Calls Tryd.prog 16 #[.string s] w (AreD s w) := by
  unfold maxLen at hs
  by_cases h0 : s.size = 0
  · have h1 := tl_nil s h0
    go_enter Tryd.func16, Tryd.ntmps16
    go_wp2
    go_ret
    exact ⟨ret_bool (areD_empty s h0).symm, rfl⟩
  have hp : 0 < s.size := by omega
  have hne := tl_ne s hp
  have hie := tl_ie s hp
  clear h0
  by_cases h48 : (s[0].toNat : Int) = 48
  · by_cases h1 : 1 < s.size
    · go_enter Tryd.func16, Tryd.ntmps16
      go_wp2
      go_ret
      exact ⟨ret_bool (areD_zero s h1 h48).symm, rfl⟩
    · have hE := areD_else s hp (Or.inr (by omega))
      have HE := Lib.hid hE
      clear hE
      go_enter Tryd.func16, Tryd.ntmps16
      go_wp2
      go_loop [18] (fun i => ∃ k : Nat, k ≤ s.size ∧ i = .int .i64 k ∧ Hid ((s.data.toList.take k).all isD = true)) (fun i => s.size - (intOf i).toNat)
      case atStart => exact ⟨0, Nat.zero_le _, rfl, Lib.hid rfl⟩
      case round =>
        obtain ⟨k, hk, rfl, ha⟩ := hrel
        by_cases hlt : k < s.size
        · by_cases hd : 48 ≤ (s[k].toNat : Int) ∧ (s[k].toNat : Int) ≤ 57
          · obtain ⟨d1, d2⟩ := hd
            go_wp2
            go_round
            case rel => exact ⟨k + 1, by omega, by go_num, Lib.hid (all_snoc s k hlt ha.out (isD_of _ d1 d2))⟩
            case measure => simp [intOf]; omega
          · have hst := Lib.hid (all_stop s k hlt (isD_no _ hd))
            by_cases d1 : (s[k].toNat : Int) < 48
            · go_wp2
              go_ret
              exact ⟨ret_bool (by rw [HE.out, hst.out]), rfl⟩
            · have d2 : 57 < (s[k].toNat : Int) := by omega
              clear hd
              go_wp2
              go_ret
              exact ⟨ret_bool (by rw [HE.out, hst.out]), rfl⟩
        · have := take_all s k (by omega)
          rw [this] at ha
          clear this
          go_wp2
          go_ret
          exact ⟨ret_bool (by rw [HE.out, ha.out]), rfl⟩
  · have hE := areD_else s hp (Or.inl h48)
    have HE := Lib.hid hE
    clear hE
    go_enter Tryd.func16, Tryd.ntmps16
    go_wp2
    go_loop [18] (fun i => ∃ k : Nat, k ≤ s.size ∧ i = .int .i64 k ∧ Hid ((s.data.toList.take k).all isD = true)) (fun i => s.size - (intOf i).toNat)
    case atStart => exact ⟨0, Nat.zero_le _, rfl, Lib.hid rfl⟩
    case round =>
      obtain ⟨k, hk, rfl, ha⟩ := hrel
      by_cases hlt : k < s.size
      · by_cases hd : 48 ≤ (s[k].toNat : Int) ∧ (s[k].toNat : Int) ≤ 57
        · obtain ⟨d1, d2⟩ := hd
          go_wp2
          go_round
          case rel => exact ⟨k + 1, by omega, by go_num, Lib.hid (all_snoc s k hlt ha.out (isD_of _ d1 d2))⟩
          case measure => simp [intOf]; omega
        · have hst := Lib.hid (all_stop s k hlt (isD_no _ hd))
          by_cases d1 : (s[k].toNat : Int) < 48
          · go_wp2
            go_ret
            exact ⟨ret_bool (by rw [HE.out, hst.out]), rfl⟩
          · have d2 : 57 < (s[k].toNat : Int) := by omega
            clear hd
            go_wp2
            go_ret
            exact ⟨ret_bool (by rw [HE.out, hst.out]), rfl⟩
      · have := take_all s k (by omega)
        rw [this] at ha
        clear this
        go_wp2
        go_ret
        exact ⟨ret_bool (by rw [HE.out, ha.out]), rfl⟩

theorem val_step (s : ByteArray) (k : Nat) (hk : k < s.size) : val (s.data.toList.take (k + 1)) = 10 * val (s.data.toList.take k) + (s[k].toNat - 48) := by
  rw [take_snoc s k hk, val_snoc]
theorem all_at (s : ByteArray) (k : Nat) (hk : k < s.size) (h : s.data.toList.all isD = true) : 48 ≤ (s[k].toNat : Int) ∧ (s[k].toNat : Int) ≤ 57 := by
  rw [List.all_eq_true] at h
  have : s[k] ∈ s.data.toList := by
    have : s.data.toList[k]'(by rw [len_size]; exact hk) = s[k] := rfl
    rw [← this]; exact List.getElem_mem _
  have := (isD_iff _).1 (h _ this)
  omega
set_option maxHeartbeats 400000 in
theorem amount_fit (s : ByteArray) (w : World) (hs : s.size ≤ maxLen) (hd : Hid (s.data.toList.all isD = true)) (hv : val s.data.toList ≤ 1152921504606846976) :
    Calls Tryd.prog 17 #[.string s] w fun e w' => e = .returned (.tuple #[.int .i64 (val s.data.toList), .bool true]) ∧ w = w' := by
  unfold maxLen at hs
  go_enter Tryd.func17, Tryd.ntmps17
  go_wp2
  go_loop [4, 9] (fun n i => ∃ k : Nat, k ≤ s.size ∧ i = .int .i64 k ∧ n = .int .i64 (val (s.data.toList.take k))) (fun _ i => s.size - (intOf i).toNat)
  case atStart => exact ⟨0, Nat.zero_le _, rfl, rfl⟩
  case round =>
    obtain ⟨k, hk, rfl, rfl⟩ := hrel
    have hle := val_take_le s.data.toList k
    by_cases hlt : k < s.size
    · have hle' := val_take_le s.data.toList (k + 1)
      have hst := Lib.hid (val_step s k hlt)
      obtain ⟨d1, d2⟩ := all_at s k hlt hd.out
      have hb : 10 * val (s.data.toList.take k) + (s[k].toNat - 48) ≤ 1152921504606846976 := by rw [← hst.out]; omega
      clear hle'
      go_wp2
      go_round
      case rel => exact ⟨k + 1, by omega, by go_num, vint (by rw [hst.out]; omega)⟩
      case measure => simp [intOf]; omega
    · have e := Lib.hid (take_all s k (by omega))
      go_wp2
      go_ret2
      exact ⟨ret_two (vint (by rw [e.out])) rfl, rfl⟩

set_option maxHeartbeats 400000 in
theorem amount_big (s : ByteArray) (w : World) (hs : s.size ≤ maxLen) (hd : Hid (s.data.toList.all isD = true)) (hv : 1152921504606846976 < val s.data.toList) :
    Calls Tryd.prog 17 #[.string s] w fun e w' => e = .returned (.tuple #[.int .i64 0, .bool false]) ∧ w = w' := by
  unfold maxLen at hs
  go_enter Tryd.func17, Tryd.ntmps17
  go_wp2
  go_loop [4, 9] (fun n i => ∃ k : Nat, k ≤ s.size ∧ i = .int .i64 k ∧ n = .int .i64 (val (s.data.toList.take k)) ∧ val (s.data.toList.take k) ≤ 1152921504606846976) (fun _ i => s.size - (intOf i).toNat)
  case atStart => exact ⟨0, Nat.zero_le _, rfl, rfl, Nat.zero_le _⟩
  case round =>
    obtain ⟨k, hk, rfl, rfl, hle⟩ := hrel
    have hlt : k < s.size := by
      apply Nat.lt_of_not_le; intro h
      rw [take_all s k h] at hle; omega
    have hst := Lib.hid (val_step s k hlt)
    obtain ⟨d1, d2⟩ := all_at s k hlt hd.out
    clear hv
    by_cases hb : 10 * val (s.data.toList.take k) + (s[k].toNat - 48) ≤ 1152921504606846976
    · go_wp2
      go_round
      case rel => exact ⟨k + 1, by omega, by go_num, vint (by rw [hst.out]; omega), by rw [hst.out]; exact hb⟩
      case measure => simp [intOf]; omega
    · go_wp2
      go_ret2
      exact ⟨rfl, rfl⟩
theorem digs_no (s : ByteArray) (h : ¬ (0 < s.size ∧ (s.data.toList.headD 0).toNat = 45)) : neg s.data.toList = false := by
  cases e : neg s.data.toList with
  | false => rfl
  | true =>
    have hc := cons_of_neg _ e
    have hl := len_size s
    rw [hc] at hl
    rw [hc] at h
    exact absurd ⟨by simp at hl; omega, rfl⟩ h

theorem digs_yes (s : ByteArray) (hp : 0 < s.size) (h45 : s[0].toNat = 45) : neg s.data.toList = true ∧ digs s.data.toList = s.data.toList.drop 1 := by
  have h : neg s.data.toList = true := by
    unfold neg; rw [headD_at s hp, beq_iff_eq]; exact UInt8.toNat_inj.1 h45
  exact ⟨h, by unfold digs; rw [if_pos h]⟩
theorem bt_text (l : List UInt8) (lo hi : Int) (h : okD l = false) : betweenE l lo hi = (0, 2) := by
  have : parseE l = (0, 2) := by unfold parseE; rw [h]; rfl
  unfold betweenE; rw [this]; rfl
theorem bt_big (l : List UInt8) (lo hi : Int) (h : okD l = true) (hv : 1152921504606846976 < val (digs l)) : betweenE l lo hi = (0, 6) := by
  have : parseE l = (0, 6) := by unfold parseE; rw [if_pos h, if_neg (by omega)]
  unfold betweenE; rw [this]; rfl
theorem ps_fit (l : List UInt8) (n : Int) (h : okD l = true) (hv : val (digs l) ≤ 1152921504606846976) (hn : n = if neg l then - (val (digs l) : Int) else (val (digs l) : Int)) : parseE l = (n, 0) := by
  unfold parseE; rw [if_pos h, if_pos hv, hn]
theorem bt_out (l : List UInt8) (lo hi n : Int) (h : okD l = true) (hv : val (digs l) ≤ 1152921504606846976) (hn : n = if neg l then - (val (digs l) : Int) else (val (digs l) : Int)) (hb : n < lo ∨ hi < n) : betweenE l lo hi = (0, 6) := by
  unfold betweenE; rw [ps_fit l n h hv hn, if_pos ⟨rfl, hb⟩]
theorem bt_in (l : List UInt8) (lo hi n : Int) (h : okD l = true) (hv : val (digs l) ≤ 1152921504606846976) (hn : n = if neg l then - (val (digs l) : Int) else (val (digs l) : Int)) (hb : ¬ (n < lo ∨ hi < n)) : betweenE l lo hi = (n, 0) := by
  unfold betweenE; rw [ps_fit l n h hv hn, if_neg (fun h => hb h.2)]
theorem all_of_areD (d : List UInt8) (h : areD d = true) : d.all isD = true := by
  unfold areD at h; simp only [Bool.and_eq_true] at h; exact h.2
def Betw (s : ByteArray) (lo hi : Int) (w : World) (e : Ending) (w' : World) : Prop := e = .returned (.tuple #[.int .i64 (betweenE s.data.toList lo hi).1, .int .i64 (betweenE s.data.toList lo hi).2]) ∧ w = w'
theorem betw_of {s : ByteArray} {lo hi : Int} {w : World} {a b : Int} (h : betweenE s.data.toList lo hi = (a, b)) : Betw s lo hi w (.returned (.tuple #[.int .i64 a, .int .i64 b])) w := by
  unfold Betw; rw [h]; exact ⟨rfl, rfl⟩
set_option maxHeartbeats 800000 in
theorem between_any (s : ByteArray) (lo hi : Int) (w : World) (hs : s.size ≤ maxLen) :
    Calls Tryd.prog 8 #[.string s, .int .i64 lo, .int .i64 hi] w (Betw s lo hi w) := by
  by_cases hn : 0 < s.size ∧ (s.data.toList.headD 0).toNat = 45
  · obtain ⟨hp, h45⟩ := hn
    have hne := tl_ne s hp
    have hie := tl_ie s hp
    rw [headD_at s hp] at h45
    obtain ⟨hneg, hdig⟩ := digs_yes s hp h45
    have Hdig := Lib.hid hdig
    have Hneg := Lib.hid hneg
    clear hdig hneg
    go_enter Tryd.func8, Tryd.ntmps8
    go_wp2_with (fail)
    have hts : (s.extract 1 s.size).size ≤ maxLen := by have : (s.extract 1 s.size).size = s.size - 1 := by simp
                                                        omega
    have htd : Hid (digs s.data.toList = (s.extract 1 s.size).data.toList) := Lib.hid (by rw [Hdig.out, Lib.extract_data]; rw [List.take_of_length_le (by rw [List.length_drop, len_size]; omega)])
    generalize s.extract 1 s.size = t at *
    refine (areDigits_any t _ hts).mono ?_
    rintro e w' ⟨rfl, rfl⟩
    by_cases hA : areD t.data.toList = true
    · cases h0 : t.toList == [48] with
      | true =>
        go_wp2_with (fail)
        go_ret2
        exact betw_of (bt_text _ _ _ (by unfold okD; rw [htd.out, hA, Hneg.out, ← ByteArray.toList_eq, h0]; rfl))
      | false =>
        have hok : Hid (okD s.data.toList = true) := Lib.hid (by unfold okD; rw [htd.out, hA, Hneg.out, ← ByteArray.toList_eq, h0]; rfl)
        go_wp2_with (fail)
        by_cases hv : val t.data.toList ≤ 1152921504606846976
        · refine (amount_fit t _ hts (Lib.hid (all_of_areD _ hA)) hv).mono ?_
          rintro e w' ⟨rfl, rfl⟩
          have hval : Hid (val (digs s.data.toList) = val t.data.toList) := Lib.hid (by rw [htd.out])
          have hv' : val (digs s.data.toList) ≤ 1152921504606846976 := by rw [hval.out]; exact hv
          have hnn : Hid (-(val t.data.toList : Int) = if neg s.data.toList then - (val (digs s.data.toList) : Int) else (val (digs s.data.toList) : Int)) := Lib.hid (by rw [Hneg.out, hval.out]; rfl)
          generalize val t.data.toList = v at *
          by_cases hb : -(v : Int) < lo
          · go_wp2_with (fail)
            go_ret2
            exact betw_of (bt_out _ _ _ _ hok.out hv' hnn.out (Or.inl hb))
          · by_cases hb' : hi < -(v : Int)
            · go_wp2_with (fail)
              go_ret2
              exact betw_of (bt_out _ _ _ _ hok.out hv' hnn.out (Or.inr hb'))
            · go_wp2_with (fail)
              go_ret2
              exact betw_of (bt_in _ _ _ _ hok.out hv' hnn.out (by omega))
        · refine (amount_big t _ hts (Lib.hid (all_of_areD _ hA)) (by omega)).mono ?_
          rintro e w' ⟨rfl, rfl⟩
          go_wp2_with (fail)
          go_ret2
          exact betw_of (bt_big _ _ _ hok.out (by rw [htd.out]; omega))
    · rw [Bool.not_eq_true] at hA
      go_wp2_with (fail)
      go_ret2
      exact betw_of (bt_text _ _ _ (by unfold okD; rw [htd.out, hA]; rfl))
  · have hneg := digs_no s hn
    have Hneg := Lib.hid hneg
    have Hdig : Hid (digs s.data.toList = s.data.toList) := Lib.hid (by unfold digs; rw [hneg]; rfl)
    clear hneg
    by_cases h0 : s.size = 0
    · have hnil := tl_nil s h0
      have hA := areD_empty s h0
      go_enter Tryd.func8, Tryd.ntmps8
      go_wp2_with (fail)
      refine (areDigits_any s _ hs).mono ?_
      rintro e w' ⟨rfl, rfl⟩
      go_wp2_with (fail)
      go_ret2
      exact betw_of (bt_text _ _ _ (by unfold okD; rw [Hdig.out, hA]; rfl))
    · have hp : 0 < s.size := by omega
      have hne := tl_ne s hp
      have hie := tl_ie s hp
      rw [headD_at s hp] at hn
      have h45 : ¬ (s[0].toNat : Int) = 45 := by omega
      clear hn h0
      go_enter Tryd.func8, Tryd.ntmps8
      go_wp2_with (fail)
      refine (areDigits_any s _ hs).mono ?_
      rintro e w' ⟨rfl, rfl⟩
      by_cases hA : areD s.data.toList = true
      · have hok : Hid (okD s.data.toList = true) := Lib.hid (by unfold okD; rw [Hdig.out, hA, Hneg.out]; rfl)
        go_wp2_with (fail)
        by_cases hv : val s.data.toList ≤ 1152921504606846976
        · refine (amount_fit s _ hs (Lib.hid (all_of_areD _ hA)) hv).mono ?_
          rintro e w' ⟨rfl, rfl⟩
          have hv' : val (digs s.data.toList) ≤ 1152921504606846976 := by rw [Hdig.out]; exact hv
          have hnn : Hid ((val s.data.toList : Int) = if neg s.data.toList then - (val (digs s.data.toList) : Int) else (val (digs s.data.toList) : Int)) := Lib.hid (by rw [Hneg.out, Hdig.out]; rfl)
          generalize val s.data.toList = v at *
          by_cases hb : (v : Int) < lo
          · go_wp2_with (fail)
            go_ret2
            exact betw_of (bt_out _ _ _ _ hok.out hv' hnn.out (Or.inl hb))
          · by_cases hb' : hi < (v : Int)
            · go_wp2_with (fail)
              go_ret2
              exact betw_of (bt_out _ _ _ _ hok.out hv' hnn.out (Or.inr hb'))
            · go_wp2_with (fail)
              go_ret2
              exact betw_of (bt_in _ _ _ _ hok.out hv' hnn.out (by omega))
        · refine (amount_big s _ hs (Lib.hid (all_of_areD _ hA)) (by omega)).mono ?_
          rintro e w' ⟨rfl, rfl⟩
          go_wp2_with (fail)
          go_ret2
          exact betw_of (bt_big _ _ _ hok.out (by rw [Hdig.out]; omega))
      · rw [Bool.not_eq_true] at hA
        go_wp2_with (fail)
        go_ret2
        exact betw_of (bt_text _ _ _ (by unfold okD; rw [Hdig.out, hA]; rfl))
def Pars (s : ByteArray) (w : World) (e : Ending) (w' : World) : Prop := e = .returned (.tuple #[.int .i64 (parseE s.data.toList).1, .int .i64 (parseE s.data.toList).2]) ∧ w = w'
theorem parse_any (s : ByteArray) (w : World) (hs : s.size ≤ maxLen) :
    Calls Tryd.prog 7 #[.string s] w (Pars s w) := by
  go_enter Tryd.func7, Tryd.ntmps7
  go_wp2_with (fail)
  refine (between_any s _ _ _ hs).mono ?_
  rintro e w' ⟨rfl, rfl⟩
  rw [between_all]
  go_wp2_with (fail)
  go_ret2
  exact ⟨rfl, rfl⟩
end Go.Proofs.YtjfcidmfdjnjhaaDoor.NumW
