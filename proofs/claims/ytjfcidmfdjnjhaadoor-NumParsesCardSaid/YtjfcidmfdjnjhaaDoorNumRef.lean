/-
  What the document's own answers of layer 1 come to (Parse, Text), and num's Digits and Text: contracts over the translation.
-/
import Derived.Test.YtjfcidmfdjnjhaaDoorNumWalk
namespace Go.Proofs.YtjfcidmfdjnjhaaDoor.NumW
open Go.RowKit
open NumM

theorem parse_of_text (l : List UInt8) (h : okD l = false) : parseE l = (0, 2) := by unfold parseE; rw [h]; rfl
theorem parse_of_big (l : List UInt8) (h : okD l = true) (hv : 1152921504606846976 < val (digs l)) : parseE l = (0, 6) := by unfold parseE; rw [if_pos h, if_neg (by omega)]
/-- the digits from b on that lie ahead of place k -/
def rd (s : ByteArray) (b k : Nat) : List UInt8 := (s.data.toList.drop b).take (k - b)
theorem rd_start (s : ByteArray) (b : Nat) : rd s b b = [] := by unfold rd; simp
theorem rd_step (s : ByteArray) (b k : Nat) (hb : b ≤ k) (hk : k < s.size) : rd s b (k + 1) = rd s b k ++ [s[k]] := by
  unfold rd
  have hl := len_size s
  rw [show k + 1 - b = (k - b) + 1 from by omega, List.take_succ_eq_append_getElem (by rw [List.length_drop, hl]; omega)]
  congr 2
  rw [List.getElem_drop]
  have : s.data.toList[k]'(by rw [hl]; exact hk) = s[k] := rfl
  rw [← this]; congr 1; omega
theorem rd_end (s : ByteArray) (b k : Nat) (hk : s.size ≤ k) : rd s b k = s.data.toList.drop b := by
  unfold rd; rw [List.take_of_length_le (by rw [List.length_drop, len_size]; omega)]
theorem val_rd (s : ByteArray) (b k : Nat) (hb : b ≤ k) (hk : k < s.size) : val (rd s b (k + 1)) = 10 * val (rd s b k) + (s[k].toNat - 48) := by rw [rd_step s b k hb hk, val_snoc]
theorem all_rd (s : ByteArray) (b k : Nat) (hb : b ≤ k) (hk : k < s.size) (h : (rd s b k).all isD = true) (hd : isD s[k] = true) : (rd s b (k + 1)).all isD = true := by
  rw [rd_step s b k hb hk, List.all_append, h, List.all_cons, hd]; rfl
theorem bad_rd (s : ByteArray) (b k : Nat) (hb : b ≤ k) (hk : k < s.size) (hd : isD s[k] = false) : (s.data.toList.drop b).all isD = false := by
  have hl := len_size s
  have e : s.data.toList.drop b = rd s b (k + 1) ++ s.data.toList.drop (k + 1) := by
    unfold rd
    have h1 := (List.take_append_drop (k + 1 - b) (s.data.toList.drop b)).symm
    rw [List.drop_drop, show b + (k + 1 - b) = k + 1 from by omega] at h1
    exact h1
  rw [e, List.all_append, rd_step s b k hb hk, List.all_append, List.all_cons, hd]; simp
theorem areD_no (d : List UInt8) (h : d.all isD = false) : areD d = false := by unfold areD; rw [h]; simp
theorem okD_bad (s : ByteArray) (d : List UInt8) (hd : digs s.data.toList = d) (h : d.all isD = false) : okD s.data.toList = false := by
  unfold okD; rw [hd, areD_no d h]; rfl
theorem drop_head (s : ByteArray) (b : Nat) (h : b < s.size) : s.data.toList.drop b = s[b] :: s.data.toList.drop (b + 1) := by
  rw [List.drop_eq_getElem_cons (by rw [len_size]; exact h)]; rfl
theorem okD_one (s : ByteArray) (hd : digs s.data.toList = s.data.toList.drop 1) (h1 : s.size = 1) : okD s.data.toList = false := by
  unfold okD
  rw [hd, List.drop_of_length_le (by rw [len_size]; omega)]; rfl
theorem okD_negzero (s : ByteArray) (hn : neg s.data.toList = true) (hd : digs s.data.toList = s.data.toList.drop 1) (h1 : 1 < s.size) (h48 : (s[1].toNat : Int) = 48) : okD s.data.toList = false := by
  have e48 : s[1] = 48 := beq_iff_eq.1 ((beq48_iff _).2 h48)
  unfold okD areD
  rw [hd, hn, drop_head s 1 h1, e48]
  cases e : s.data.toList.drop (1 + 1) with
  | nil => simp
  | cons a l => simp
theorem okD_neg (s : ByteArray) (hn : neg s.data.toList = true) (hd : digs s.data.toList = s.data.toList.drop 1) (h1 : 1 < s.size) (h48 : ¬ (s[1].toNat : Int) = 48) (ha : (s.data.toList.drop 1).all isD = true) : okD s.data.toList = true := by
  have e48 := beq48_no _ h48
  unfold okD areD
  rw [hd, hn, ha, drop_head s 1 h1]
  simp only [List.isEmpty_cons, List.headD_cons, e48]
  have : (s[1] :: s.data.toList.drop (1 + 1) == [48]) = false := by
    rw [beq_eq_false_iff_ne]; intro e
    have := (List.cons.inj e).1
    rw [this] at e48; exact absurd e48 (by decide)
  rw [this]; rfl
theorem okD_zero (s : ByteArray) (hd : digs s.data.toList = s.data.toList) (h1 : 1 < s.size) (h48 : (s[0].toNat : Int) = 48) : okD s.data.toList = false := by
  unfold okD; rw [hd, areD_zero s h1 h48]; rfl
theorem okD_pos (s : ByteArray) (hn : neg s.data.toList = false) (hd : digs s.data.toList = s.data.toList) (h0 : 0 < s.size) (h48 : (s[0].toNat : Int) ≠ 48 ∨ s.size ≤ 1) (ha : s.data.toList.all isD = true) : okD s.data.toList = true := by
  unfold okD; rw [hd, hn, areD_else s h0 h48, ha]; rfl
def RPars (s : ByteArray) (w : World) (e : Ending) (w' : World) : Prop := e = .returned (.tuple #[.int .i64 (parseE s.data.toList).1, .int .i64 (parseE s.data.toList).2]) ∧ w = w'
theorem rpars_of {s : ByteArray} {w : World} {a b : Int} (h : parseE s.data.toList = (a, b)) : RPars s w (.returned (.tuple #[.int .i64 a, .int .i64 b])) w := by
  unfold RPars; rw [h]; exact ⟨rfl, rfl⟩
/-- where the reading stands: not yet too great, or too great -/
def Fits (s : ByteArray) (b k : Nat) : Prop := (rd s b k).all isD = true ∧ val (rd s b k) ≤ 1152921504606846976
def Over (s : ByteArray) (b k : Nat) : Prop := (rd s b k).all isD = true ∧ 1152921504606846976 < val (rd s b k)
def RRel (s : ByteArray) (b : Nat) (n g i : Value) : Prop :=
  ∃ k : Nat, b ≤ k ∧ k ≤ s.size ∧ i = .int .i64 k ∧ ((n = .int .i64 (val (rd s b k)) ∧ g = .bool false ∧ Fits s b k) ∨ (∃ m : Int, 0 ≤ m ∧ m ≤ 1152921504606846976 ∧ n = .int .i64 m ∧ g = .bool true ∧ Over s b k))
theorem bq_no {a b : Int} (h : ¬ a = b) : (a == b) = false := beq_eq_false_iff_ne.2 h
theorem bq_yes {a b : Int} (h : a = b) : (a == b) = true := beq_iff_eq.2 h
theorem dec_no {p : Prop} [Decidable p] (h : ¬ p) : decide p = false := decide_eq_false h
theorem dec_yes {p : Prop} [Decidable p] (h : p) : decide p = true := decide_eq_true h
theorem fits_start (s : ByteArray) (b : Nat) : Fits s b b := by unfold Fits; rw [rd_start]; exact ⟨rfl, by decide⟩
theorem fits_fits (s : ByteArray) (b k : Nat) (hb : b ≤ k) (hk : k < s.size) (h : Fits s b k) (hd : isD s[k] = true) (hv : 10 * val (rd s b k) + (s[k].toNat - 48) ≤ 1152921504606846976) : Fits s b (k + 1) :=
  ⟨all_rd s b k hb hk h.1 hd, by rw [val_rd s b k hb hk]; exact hv⟩
theorem fits_over (s : ByteArray) (b k : Nat) (hb : b ≤ k) (hk : k < s.size) (h : Fits s b k) (hd : isD s[k] = true) (hv : ¬ 10 * val (rd s b k) + (s[k].toNat - 48) ≤ 1152921504606846976) : Over s b (k + 1) :=
  ⟨all_rd s b k hb hk h.1 hd, by rw [val_rd s b k hb hk]; omega⟩
theorem over_over (s : ByteArray) (b k : Nat) (hb : b ≤ k) (hk : k < s.size) (h : Over s b k) (hd : isD s[k] = true) : Over s b (k + 1) :=
  ⟨all_rd s b k hb hk h.1 hd, by rw [val_rd s b k hb hk]; have := h.2; omega⟩
set_option maxHeartbeats 800000 in
theorem refParse_neg (s : ByteArray) (w : World) (hs : s.size ≤ maxLen) (Hneg : Hid (neg s.data.toList = true)) (Hdig : Hid (digs s.data.toList = s.data.toList.drop 1)) (hp : 1 < s.size) (h45 : (s[0].toNat : Int) = 45) (h48 : ¬ (s[1].toNat : Int) = 48) :
    Calls Tryd.prog 10 #[.string s] w (RPars s w) := by
  unfold maxLen at hs
  have b45 := bq_yes h45
  have b1 := bq_no (show ¬ (1 : Int) = (s.size : Int) from by omega)
  have b48 := bq_no h48
  go_enter Tryd.func10, Tryd.ntmps10
  go_wp2
  go_loop [4, 6, 7] (RRel s 1) (fun _ _ i => s.size - (intOf i).toNat)
  case atStart => exact ⟨1, by omega, by omega, rfl, Or.inl ⟨vint (by rw [rd_start]; rfl), rfl, fits_start s 1⟩⟩
  case round =>
    obtain ⟨k, hbk, hk, rfl, hcase⟩ := hrel
    rcases hcase with ⟨rfl, rfl, hF⟩ | ⟨m, hm0, hm1, rfl, rfl, hO⟩
    · by_cases hlt : k < s.size
      · by_cases hd : 48 ≤ (s[k].toNat : Int) ∧ (s[k].toNat : Int) ≤ 57
        · obtain ⟨d1, d2⟩ := hd
          have hv := hF.2
          have hst := Lib.hid (val_rd s 1 k hbk hlt)
          by_cases hb : 10 * val (rd s 1 k) + (s[k].toNat - 48) ≤ 1152921504606846976
          · have hg := dec_no (show ¬ ((1152921504606846976 - ((s[k].toNat : Int) - 48)) / 10 < (val (rd s 1 k) : Int)) from by omega)
            go_wp2
            go_round
            case rel => exact ⟨k + 1, by omega, by omega, by go_num, Or.inl ⟨vint (by rw [hst.out]; omega), rfl, fits_fits s 1 k hbk hlt hF (isD_of _ d1 d2) hb⟩⟩
            case measure => simp [intOf]; omega
          · have hg := dec_yes (show ((1152921504606846976 - ((s[k].toNat : Int) - 48)) / 10 < (val (rd s 1 k) : Int)) from by omega)
            go_wp2
            go_round
            case rel => exact ⟨k + 1, by omega, by omega, by go_num, Or.inr ⟨_, by omega, by omega, rfl, rfl, fits_over s 1 k hbk hlt hF (isD_of _ d1 d2) hb⟩⟩
            case measure => simp [intOf]; omega
        · have hbad := Lib.hid (okD_bad s _ Hdig.out (bad_rd s 1 k hbk hlt (isD_no _ hd)))
          by_cases d1 : (s[k].toNat : Int) < 48
          · go_wp2
            go_ret2
            exact rpars_of (parse_of_text _ hbad.out)
          · have d2 : 57 < (s[k].toNat : Int) := by omega
            clear hd
            go_wp2
            go_ret2
            exact rpars_of (parse_of_text _ hbad.out)
      · have e := Lib.hid (rd_end s 1 k (by omega))
        have hv := hF.2
        have hok : Hid (okD s.data.toList = true) := Lib.hid (okD_neg s Hneg.out Hdig.out hp h48 (by have h := hF.1; rw [e.out] at h; exact h))
        have hval : Hid (val (digs s.data.toList) = val (rd s 1 k)) := Lib.hid (by rw [Hdig.out, e.out])
        generalize val (rd s 1 k) = v at *
        go_wp2
        go_ret2
        exact rpars_of (ps_fit _ _ hok.out (by rw [hval.out]; exact hv) (by rw [Hneg.out, hval.out]; rfl))
    · by_cases hlt : k < s.size
      · by_cases hd : 48 ≤ (s[k].toNat : Int) ∧ (s[k].toNat : Int) ≤ 57
        · obtain ⟨d1, d2⟩ := hd
          go_wp2
          go_round
          case rel => exact ⟨k + 1, by omega, by omega, by go_num, Or.inr ⟨_, hm0, hm1, rfl, rfl, over_over s 1 k hbk hlt hO (isD_of _ d1 d2)⟩⟩
          case measure => simp [intOf]; omega
        · have hbad := Lib.hid (okD_bad s _ Hdig.out (bad_rd s 1 k hbk hlt (isD_no _ hd)))
          by_cases d1 : (s[k].toNat : Int) < 48
          · go_wp2
            go_ret2
            exact rpars_of (parse_of_text _ hbad.out)
          · have d2 : 57 < (s[k].toNat : Int) := by omega
            clear hd
            go_wp2
            go_ret2
            exact rpars_of (parse_of_text _ hbad.out)
      · have e := Lib.hid (rd_end s 1 k (by omega))
        have hall := Lib.hid hO.1
        have hok : Hid (okD s.data.toList = true) := Lib.hid (okD_neg s Hneg.out Hdig.out hp h48 (by have h := hO.1; rw [e.out] at h; exact h))
        have hval : Hid (1152921504606846976 < val (digs s.data.toList)) := Lib.hid (by rw [Hdig.out]; have h := hO.2; rw [e.out] at h; exact h)
        clear hall
        go_wp2
        go_ret2
        exact rpars_of (parse_of_big _ hok.out hval.out)
set_option maxHeartbeats 800000 in
theorem refParse_pos (s : ByteArray) (w : World) (hs : s.size ≤ maxLen) (Hneg : Hid (neg s.data.toList = false)) (Hdig : Hid (digs s.data.toList = s.data.toList.drop 0)) (hp : 0 < s.size) (h45 : ¬ (s[0].toNat : Int) = 45) (h48 : ¬ (s[0].toNat : Int) = 48) :
    Calls Tryd.prog 10 #[.string s] w (RPars s w) := by
  unfold maxLen at hs
  have b45 := bq_no h45
  have b1 := bq_no (show ¬ (0 : Int) = (s.size : Int) from by omega)
  have b48 := bq_no h48
  go_enter Tryd.func10, Tryd.ntmps10
  go_wp2
  go_loop [4, 6, 7] (RRel s 0) (fun _ _ i => s.size - (intOf i).toNat)
  case atStart => exact ⟨0, by omega, by omega, rfl, Or.inl ⟨vint (by rw [rd_start]; rfl), rfl, fits_start s 0⟩⟩
  case round =>
    obtain ⟨k, hbk, hk, rfl, hcase⟩ := hrel
    rcases hcase with ⟨rfl, rfl, hF⟩ | ⟨m, hm0, hm1, rfl, rfl, hO⟩
    · by_cases hlt : k < s.size
      · by_cases hd : 48 ≤ (s[k].toNat : Int) ∧ (s[k].toNat : Int) ≤ 57
        · obtain ⟨d1, d2⟩ := hd
          have hv := hF.2
          have hst := Lib.hid (val_rd s 0 k hbk hlt)
          by_cases hb : 10 * val (rd s 0 k) + (s[k].toNat - 48) ≤ 1152921504606846976
          · have hg := dec_no (show ¬ ((1152921504606846976 - ((s[k].toNat : Int) - 48)) / 10 < (val (rd s 0 k) : Int)) from by omega)
            go_wp2
            go_round
            case rel => exact ⟨k + 1, by omega, by omega, by go_num, Or.inl ⟨vint (by rw [hst.out]; omega), rfl, fits_fits s 0 k hbk hlt hF (isD_of _ d1 d2) hb⟩⟩
            case measure => simp [intOf]; omega
          · have hg := dec_yes (show ((1152921504606846976 - ((s[k].toNat : Int) - 48)) / 10 < (val (rd s 0 k) : Int)) from by omega)
            go_wp2
            go_round
            case rel => exact ⟨k + 1, by omega, by omega, by go_num, Or.inr ⟨_, by omega, by omega, rfl, rfl, fits_over s 0 k hbk hlt hF (isD_of _ d1 d2) hb⟩⟩
            case measure => simp [intOf]; omega
        · have hbad := Lib.hid (okD_bad s _ Hdig.out (bad_rd s 0 k hbk hlt (isD_no _ hd)))
          by_cases d1 : (s[k].toNat : Int) < 48
          · go_wp2
            go_ret2
            exact rpars_of (parse_of_text _ hbad.out)
          · have d2 : 57 < (s[k].toNat : Int) := by omega
            clear hd
            go_wp2
            go_ret2
            exact rpars_of (parse_of_text _ hbad.out)
      · have e := Lib.hid (rd_end s 0 k (by omega))
        have hv := hF.2
        have hok : Hid (okD s.data.toList = true) := Lib.hid (okD_pos s Hneg.out Hdig.out hp (Or.inl h48) (by have h := hF.1; rw [e.out] at h; exact h))
        have hval : Hid (val (digs s.data.toList) = val (rd s 0 k)) := Lib.hid (by rw [Hdig.out, e.out])
        generalize val (rd s 0 k) = v at *
        go_wp2
        go_ret2
        exact rpars_of (ps_fit _ _ hok.out (by rw [hval.out]; exact hv) (by rw [Hneg.out, hval.out]; rfl))
    · by_cases hlt : k < s.size
      · by_cases hd : 48 ≤ (s[k].toNat : Int) ∧ (s[k].toNat : Int) ≤ 57
        · obtain ⟨d1, d2⟩ := hd
          go_wp2
          go_round
          case rel => exact ⟨k + 1, by omega, by omega, by go_num, Or.inr ⟨_, hm0, hm1, rfl, rfl, over_over s 0 k hbk hlt hO (isD_of _ d1 d2)⟩⟩
          case measure => simp [intOf]; omega
        · have hbad := Lib.hid (okD_bad s _ Hdig.out (bad_rd s 0 k hbk hlt (isD_no _ hd)))
          by_cases d1 : (s[k].toNat : Int) < 48
          · go_wp2
            go_ret2
            exact rpars_of (parse_of_text _ hbad.out)
          · have d2 : 57 < (s[k].toNat : Int) := by omega
            clear hd
            go_wp2
            go_ret2
            exact rpars_of (parse_of_text _ hbad.out)
      · have e := Lib.hid (rd_end s 0 k (by omega))
        have hall := Lib.hid hO.1
        have hok : Hid (okD s.data.toList = true) := Lib.hid (okD_pos s Hneg.out Hdig.out hp (Or.inl h48) (by have h := hO.1; rw [e.out] at h; exact h))
        have hval : Hid (1152921504606846976 < val (digs s.data.toList)) := Lib.hid (by rw [Hdig.out]; have h := hO.2; rw [e.out] at h; exact h)
        clear hall
        go_wp2
        go_ret2
        exact rpars_of (parse_of_big _ hok.out hval.out)
set_option maxHeartbeats 800000 in
theorem refParse_one (s : ByteArray) (w : World) (hs : s.size ≤ maxLen) (Hneg : Hid (neg s.data.toList = false)) (Hdig : Hid (digs s.data.toList = s.data.toList.drop 0)) (hp : 0 < s.size) (h45 : ¬ (s[0].toNat : Int) = 45) (h48 : (s[0].toNat : Int) = 48) (h1 : s.size ≤ 1) :
    Calls Tryd.prog 10 #[.string s] w (RPars s w) := by
  unfold maxLen at hs
  have b45 := bq_no h45
  have b1 := bq_no (show ¬ (0 : Int) = (s.size : Int) from by omega)
  have b48 := bq_yes h48
  have b2 := dec_no (show ¬ (1 : Int) < (s.size : Int) from by omega)
  go_enter Tryd.func10, Tryd.ntmps10
  go_wp2
  go_loop [4, 6, 7] (RRel s 0) (fun _ _ i => s.size - (intOf i).toNat)
  case atStart => exact ⟨0, by omega, by omega, rfl, Or.inl ⟨vint (by rw [rd_start]; rfl), rfl, fits_start s 0⟩⟩
  case round =>
    obtain ⟨k, hbk, hk, rfl, hcase⟩ := hrel
    rcases hcase with ⟨rfl, rfl, hF⟩ | ⟨m, hm0, hm1, rfl, rfl, hO⟩
    · by_cases hlt : k < s.size
      · by_cases hd : 48 ≤ (s[k].toNat : Int) ∧ (s[k].toNat : Int) ≤ 57
        · obtain ⟨d1, d2⟩ := hd
          have hv := hF.2
          have hst := Lib.hid (val_rd s 0 k hbk hlt)
          by_cases hb : 10 * val (rd s 0 k) + (s[k].toNat - 48) ≤ 1152921504606846976
          · have hg := dec_no (show ¬ ((1152921504606846976 - ((s[k].toNat : Int) - 48)) / 10 < (val (rd s 0 k) : Int)) from by omega)
            go_wp2
            go_round
            case rel => exact ⟨k + 1, by omega, by omega, by go_num, Or.inl ⟨vint (by rw [hst.out]; omega), rfl, fits_fits s 0 k hbk hlt hF (isD_of _ d1 d2) hb⟩⟩
            case measure => simp [intOf]; omega
          · have hg := dec_yes (show ((1152921504606846976 - ((s[k].toNat : Int) - 48)) / 10 < (val (rd s 0 k) : Int)) from by omega)
            go_wp2
            go_round
            case rel => exact ⟨k + 1, by omega, by omega, by go_num, Or.inr ⟨_, by omega, by omega, rfl, rfl, fits_over s 0 k hbk hlt hF (isD_of _ d1 d2) hb⟩⟩
            case measure => simp [intOf]; omega
        · have hbad := Lib.hid (okD_bad s _ Hdig.out (bad_rd s 0 k hbk hlt (isD_no _ hd)))
          by_cases d1 : (s[k].toNat : Int) < 48
          · go_wp2
            go_ret2
            exact rpars_of (parse_of_text _ hbad.out)
          · have d2 : 57 < (s[k].toNat : Int) := by omega
            clear hd
            go_wp2
            go_ret2
            exact rpars_of (parse_of_text _ hbad.out)
      · have e := Lib.hid (rd_end s 0 k (by omega))
        have hv := hF.2
        have hok : Hid (okD s.data.toList = true) := Lib.hid (okD_pos s Hneg.out Hdig.out hp (Or.inr h1) (by have h := hF.1; rw [e.out] at h; exact h))
        have hval : Hid (val (digs s.data.toList) = val (rd s 0 k)) := Lib.hid (by rw [Hdig.out, e.out])
        generalize val (rd s 0 k) = v at *
        go_wp2
        go_ret2
        exact rpars_of (ps_fit _ _ hok.out (by rw [hval.out]; exact hv) (by rw [Hneg.out, hval.out]; rfl))
    · by_cases hlt : k < s.size
      · by_cases hd : 48 ≤ (s[k].toNat : Int) ∧ (s[k].toNat : Int) ≤ 57
        · obtain ⟨d1, d2⟩ := hd
          go_wp2
          go_round
          case rel => exact ⟨k + 1, by omega, by omega, by go_num, Or.inr ⟨_, hm0, hm1, rfl, rfl, over_over s 0 k hbk hlt hO (isD_of _ d1 d2)⟩⟩
          case measure => simp [intOf]; omega
        · have hbad := Lib.hid (okD_bad s _ Hdig.out (bad_rd s 0 k hbk hlt (isD_no _ hd)))
          by_cases d1 : (s[k].toNat : Int) < 48
          · go_wp2
            go_ret2
            exact rpars_of (parse_of_text _ hbad.out)
          · have d2 : 57 < (s[k].toNat : Int) := by omega
            clear hd
            go_wp2
            go_ret2
            exact rpars_of (parse_of_text _ hbad.out)
      · have e := Lib.hid (rd_end s 0 k (by omega))
        have hall := Lib.hid hO.1
        have hok : Hid (okD s.data.toList = true) := Lib.hid (okD_pos s Hneg.out Hdig.out hp (Or.inr h1) (by have h := hO.1; rw [e.out] at h; exact h))
        have hval : Hid (1152921504606846976 < val (digs s.data.toList)) := Lib.hid (by rw [Hdig.out]; have h := hO.2; rw [e.out] at h; exact h)
        clear hall
        go_wp2
        go_ret2
        exact rpars_of (parse_of_big _ hok.out hval.out)
set_option maxHeartbeats 800000 in
theorem refParse_any (s : ByteArray) (w : World) (hs : s.size ≤ maxLen) :
    Calls Tryd.prog 10 #[.string s] w (RPars s w) := by
  by_cases h0 : s.size = 0
  · have hA := areD_empty s h0
    have hn := digs_no s (by omega)
    have hok := Lib.hid (parse_of_text s.data.toList (by unfold okD digs; rw [hn]; rw [if_neg (by decide), hA]; rfl))
    clear hA hn
    go_enter Tryd.func10, Tryd.ntmps10
    go_wp2
    go_ret2
    exact rpars_of hok.out
  have hp : 0 < s.size := by omega
  by_cases h45 : (s[0].toNat : Int) = 45
  · obtain ⟨hn, hd⟩ := digs_yes s hp (by omega)
    by_cases h1 : s.size = 1
    · have hok := Lib.hid (parse_of_text _ (okD_one s hd h1))
      clear hn hd h0
      unfold maxLen at hs
      go_enter Tryd.func10, Tryd.ntmps10
      go_wp2
      go_ret2
      exact rpars_of hok.out
    · have h1' : 1 < s.size := by omega
      by_cases h48 : (s[1].toNat : Int) = 48
      · have hok := Lib.hid (parse_of_text _ (okD_negzero s hn hd h1' h48))
        clear hn hd h0
        unfold maxLen at hs
        go_enter Tryd.func10, Tryd.ntmps10
        go_wp2
        go_ret2
        exact rpars_of hok.out
      · exact refParse_neg s w hs (Lib.hid hn) (Lib.hid hd) h1' h45 h48
  · have hn := digs_no s (by rw [headD_at s hp]; omega)
    have hd : digs s.data.toList = s.data.toList := by unfold digs; rw [hn]; rfl
    by_cases h48 : (s[0].toNat : Int) = 48
    · by_cases h1 : 1 < s.size
      · have hok := Lib.hid (parse_of_text _ (okD_zero s hd h1 h48))
        clear hn hd h0
        unfold maxLen at hs
        go_enter Tryd.func10, Tryd.ntmps10
        go_wp2
        go_ret2
        exact rpars_of hok.out
      · exact refParse_one s w hs (Lib.hid hn) (Lib.hid hd) hp h45 h48 (by omega)
    · exact refParse_pos s w hs (Lib.hid hn) (Lib.hid hd) hp h45 h48
end Go.Proofs.YtjfcidmfdjnjhaaDoor.NumW
