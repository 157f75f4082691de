/-
  The walk of the law WideShifts.
-/
import Derived.Test.YtlphfpaefgcidaaWideLaws2
namespace Go.Proofs.Ytlphfpaefgcidaa.WideW
open Go.RowKit
open DigM WideM WideV KM DigW
/-- what a row of 32 digits holds -/
def Holds32 (cap : Nat) (cur : Array Value) (ds : List Nat) : Prop := ds.length = 32 ∧ 32 ≤ cap ∧ cap ≤ 9223372036854775807 ∧ cur.size = cap ∧ ∀ j, j < 32 → cur[j]? = some (.int .u64 (dg ds j : Nat))
theorem own32 {W : World} {L : List Ent} (u : KW W L) {w' : World} {v : Value} {ds : List Nat} (hb : Below u.w.heap.size u.w w') (o : Own u.w.heap.size w' v ds) (hl : ds.length = 32) :
    ∃ (g cap : Nat) (cur : Array Value) (u' : KW W (⟨g, cur, 22⟩ :: L)), v = .slice (some ⟨g, 0, none⟩) 32 cap ∧ Hid (Holds32 cap cur ds) ∧ w' = u'.w := by
  obtain ⟨g, cap, cur, u', hv, hc1, hc2, hc3, hc4, hw⟩ := u.take_own hb o (by omega)
  rw [hl] at hv
  refine ⟨g, cap, cur, u', hv, Lib.hid ⟨hl, by omega, by unfold maxLen at hc2; omega, hc3, fun j hj => ?_⟩, hw⟩
  have e := congrArg (·[j]?) hc4
  simp only [List.getElem?_map] at e
  rw [List.getElem?_take, if_pos (by omega), List.getElem?_eq_getElem (show j < ds.length by omega)] at e
  rw [dg_lt (by omega)]
  simpa using e
theorem rd32 {W : World} {L : List Ent} (u : KW W L) {g cap : Nat} {cur : Array Value} {t : TypeId} {ds : List Nat} [h : Has L g cur t] (H : Hid (Holds32 cap cur ds)) : Rd u.w (.slice (some ⟨g, 0, none⟩) 32 cap) ds := by
  obtain ⟨h1, h2, h3, _, h4⟩ := H.out
  exact ⟨some ⟨g, 0, none⟩, cap, by rw [h1], ⟨by omega, h3⟩, fun j hj => ⟨g, 0, rfl, u.lt (h := h), by rw [Nat.zero_add, u.cell? (h := h), h4 j (by omega)]⟩⟩
theorem len_call {W : World} {L : List Ent} {v : Value} {ds : List Nat} {a : Nat} (hr : ∀ u : KW W L, Rd u.w v ds) (hg : Digs ds) (hl : ds.length ≤ 1048576) (ha : val ds = a) (u : KW W L) :
    Calls Try.prog 22 #[v] u.w fun e w'' => e = .returned (.int .i64 (bl a : Nat)) ∧ ∃ u' : KW W L, w'' = u'.w :=
  (len_any v ds u.w (hr u) hg (by omega)).mono fun e w'' ⟨k, he, hk, _, m, hw⟩ => by
    rw [ha] at hk
    exact ⟨by rw [he, bl_of hk], u.go (by rw [hw]; exact below_drewN (Below.refl _ _) m)⟩
theorem one_word (n : Nat) (hn : n < 18446744073709551616) : (cells 8 0).setIfInBounds 0 (.int .u64 (n : Nat)) = cells 8 n := by
  rw [cells_set (by rw [B_eq]; exact hn), put_small (by simp), Nat.zero_add, Nat.pow_zero, Nat.one_mul]
theorem cells_ne (n : Nat) : ¬ cells 8 n = #[] := fun h => by
  have := congrArg Array.size h
  simp at this
theorem word_one (x : Nat) : wordAt [x] 0 = x := by simp [wordAt, val]
theorem rd1 {W : World} {L : List Ent} (u : KW W L) {g cap q x : Nat} {cur : Array Value} {t : TypeId} {ds : List Nat} [h : Has L g cur t] (H : Hid (Holds32 cap cur ds)) (hq : q < 32) (hx : dg ds q = x) : Rd u.w (.slice (some ⟨g, q, none⟩) 1 (cap - q)) [x] := by
  obtain ⟨h1, h2, h3, _, h4⟩ := H.out
  refine ⟨some ⟨g, q, none⟩, cap - q, rfl, ⟨by simp; omega, by omega⟩, fun j hj => ⟨g, q, rfl, u.lt (h := h), ?_⟩⟩
  obtain rfl : j = 0 := by simp at hj; omega
  rw [Nat.add_zero, u.cell? (h := h), h4 q hq, hx]
  rfl
theorem bit_no {a : Nat} {z : Int} (ha : a < M) (h : z < 0 ∨ 512 ≤ z) : bitZ a z = false := by
  unfold bitZ
  rcases h with h | h
  · rw [decide_eq_false (by omega)]; rfl
  · rw [bit_big ha (by omega)]; simp
set_option maxRecDepth 100000 in
set_option maxHeartbeats 3200000 in
theorem wideShifts_low (a : Nat) (z : Int) (n : Nat) (w : World) (ha : Hid (a < M)) (h1 : Hid (-9223372036854775808 ≤ z)) (h2 : Hid (z ≤ 9223372036854775807)) (hn : Hid (n < 18446744073709551616)) (hz : z < 0) :
    Calls Try.prog 4 #[wv a, .int .i64 z, .int .u64 n] w (TrueAt3 w) := by
  have HDA := Lib.hid (digits32_any a ha)
  obtain ⟨b, HB⟩ : ∃ b, Hid (bitZ a z = b) := ⟨_, Lib.hid rfl⟩
  have FB : Hid (∀ w, Calls Try.prog 23 #[wv a, .int .i64 z] w (Ret (.bool b) w)) := Lib.hid fun w => by rw [← HB.out]; exact wbit_any a z h1.out h2.out ha w
  have hq0 := eqlW a 0 ha.out M_pos
  have h0 := nought
  have h0n := one_word n hn.out
  have hne0 := cells_ne 0
  refine enter fun u => ?_
  go_enter Try.func4, Try.ntmps4
  go_wp2_with (first | ((with_reducible apply list_box); exact rfl; intro _ _) | ((with_reducible apply lst_load); exact rfl; infer_instance; exact rowW; exact cells_size _ _))
  refine (HDA.out _).mono ?_
  rintro e w1 ⟨v, ds, rfl, ⟨hd1, hd2, hd3⟩, o1, b1⟩
  rename_i g3 u3 _ _ _ _
  obtain ⟨gd, cap, cur, u4, hv, HD, rfl⟩ := own32 u3 b1 o1 hd3
  have hd1 := Lib.hid hd1
  have hd2 := Lib.hid hd2
  rw [hv]
  clear hv b1 o1 hd3 u u3
  obtain rfl : b = false := by rw [← HB.out]; exact bit_no ha.out (by omega)
  go_wp2_with (fail)
  refine region (by kernel_rfl) (by kernel_rfl) fun _ => ?_
  repeat (go_big_quiet_step (first
    | (go_at_call 19; exact call (fun w => wshift_any a _ h1.out h2.out ha w) _)
    | (go_at_call 20; exact call (fun w => refShift_any a _ h1.out h2.out ha w) _)
    | (go_at_call 21; exact call (fun w => wlen8_any a ha w) _)
    | (go_at_call 22; exact len_call (fun u => rd32 u HD) hd1.out (by rw [HD.out.1]; decide) hd2.out _)
    | (go_at_call 23; exact call FB.out _)
    | (go_at_call 24; exact call (fun w => zero_any a ha.out w) _)
    | (go_at_call 25; exact call (fun w => of_any n hn w) _)
    | (go_at_call 17; exact call awake_any _)))
  refine wpQuiet_nil ?_
  rintro _ ⟨u', rfl⟩
  go_wp2_with (fail)
  go_ret
  exact ⟨rfl, u'.below⟩
set_option maxRecDepth 100000 in
set_option maxHeartbeats 3200000 in
theorem wideShifts_high (a : Nat) (z : Int) (n : Nat) (w : World) (ha : Hid (a < M)) (h1 : Hid (-9223372036854775808 ≤ z)) (h2 : Hid (z ≤ 9223372036854775807)) (hn : Hid (n < 18446744073709551616)) (hz : 512 ≤ z) :
    Calls Try.prog 4 #[wv a, .int .i64 z, .int .u64 n] w (TrueAt3 w) := by
  have HDA := Lib.hid (digits32_any a ha)
  obtain ⟨b, HB⟩ : ∃ b, Hid (bitZ a z = b) := ⟨_, Lib.hid rfl⟩
  have FB : Hid (∀ w, Calls Try.prog 23 #[wv a, .int .i64 z] w (Ret (.bool b) w)) := Lib.hid fun w => by rw [← HB.out]; exact wbit_any a z h1.out h2.out ha w
  have hq0 := eqlW a 0 ha.out M_pos
  have h0 := nought
  have h0n := one_word n hn.out
  have hne0 := cells_ne 0
  refine enter fun u => ?_
  go_enter Try.func4, Try.ntmps4
  go_wp2_with (first | ((with_reducible apply list_box); exact rfl; intro _ _) | ((with_reducible apply lst_load); exact rfl; infer_instance; exact rowW; exact cells_size _ _))
  refine (HDA.out _).mono ?_
  rintro e w1 ⟨v, ds, rfl, ⟨hd1, hd2, hd3⟩, o1, b1⟩
  rename_i g3 u3 _ _ _ _
  obtain ⟨gd, cap, cur, u4, hv, HD, rfl⟩ := own32 u3 b1 o1 hd3
  have hd1 := Lib.hid hd1
  have hd2 := Lib.hid hd2
  rw [hv]
  clear hv b1 o1 hd3 u u3
  obtain rfl : b = false := by rw [← HB.out]; exact bit_no ha.out (by omega)
  go_wp2_with (fail)
  refine region (by kernel_rfl) (by kernel_rfl) fun _ => ?_
  repeat (go_big_quiet_step (first
    | (go_at_call 19; exact call (fun w => wshift_any a _ h1.out h2.out ha w) _)
    | (go_at_call 20; exact call (fun w => refShift_any a _ h1.out h2.out ha w) _)
    | (go_at_call 21; exact call (fun w => wlen8_any a ha w) _)
    | (go_at_call 22; exact len_call (fun u => rd32 u HD) hd1.out (by rw [HD.out.1]; decide) hd2.out _)
    | (go_at_call 23; exact call FB.out _)
    | (go_at_call 24; exact call (fun w => zero_any a ha.out w) _)
    | (go_at_call 25; exact call (fun w => of_any n hn w) _)
    | (go_at_call 17; exact call awake_any _)))
  refine wpQuiet_nil ?_
  rintro _ ⟨u', rfl⟩
  go_wp2_with (fail)
  go_ret
  exact ⟨rfl, u'.below⟩
set_option maxRecDepth 100000 in
set_option maxHeartbeats 3200000 in
theorem wideShifts_in (a : Nat) (z : Int) (n : Nat) (w : World) (ha : Hid (a < M)) (h1 : Hid (-9223372036854775808 ≤ z)) (h2 : Hid (z ≤ 9223372036854775807)) (hn : Hid (n < 18446744073709551616)) (hz : 0 ≤ z ∧ z < 512) :
    Calls Try.prog 4 #[wv a, .int .i64 z, .int .u64 n] w (TrueAt3 w) := by
  have HDA := Lib.hid (digits32_any a ha)
  obtain ⟨b, HB⟩ : ∃ b, Hid (bitZ a z = b) := ⟨_, Lib.hid rfl⟩
  have FB : Hid (∀ w, Calls Try.prog 23 #[wv a, .int .i64 z] w (Ret (.bool b) w)) := Lib.hid fun w => by rw [← HB.out]; exact wbit_any a z h1.out h2.out ha w
  have hq0 := eqlW a 0 ha.out M_pos
  have h0 := nought
  have h0n := one_word n hn.out
  have hne0 := cells_ne 0
  refine enter fun u => ?_
  go_enter Try.func4, Try.ntmps4
  go_wp2_with (first | ((with_reducible apply list_box); exact rfl; intro _ _) | ((with_reducible apply lst_load); exact rfl; infer_instance; exact rowW; exact cells_size _ _))
  refine (HDA.out _).mono ?_
  rintro e w1 ⟨v, ds, rfl, ⟨hd1, hd2, hd3⟩, o1, b1⟩
  rename_i g3 u3 _ _ _ _
  obtain ⟨gd, cap, cur, u4, hv, HD, rfl⟩ := own32 u3 b1 o1 hd3
  have hd1 := Lib.hid hd1
  have hd2 := Lib.hid hd2
  rw [hv]
  clear hv b1 o1 hd3 u u3
  obtain ⟨m, rfl⟩ : ∃ m : Nat, z = m := ⟨z.toNat, by omega⟩
  have hm : m < 512 := by omega
  clear hz
  obtain ⟨x, hx⟩ : ∃ x, dg ds (m / 16) = x := ⟨_, rfl⟩
  have hq1 : (m : Int) / 16 + 1 ≤ cap := by have := HD.out.2.1; omega
  have hq2 : (0 : Int) ≤ (m : Int) / 16 := by omega
  have hne : ¬ (cap = m / 16) := by have := HD.out.2.1; omega
  have hnn : m / 16 + 1 - m / 16 = 1 := by omega
  go_wp2_with (fail)
  have hxb : Digs [x] := by
    intro y hy
    simp at hy
    rw [hy, ← hx]
    exact hd1.out.dg _
  have FW := word_any _ [x] 0 u4.w (rd1 (g := gd) u4 HD (by omega) hx) hxb (by simp) (by decide)
  rw [word_one] at FW
  have HFW := Lib.hid FW
  have hbit := shr_bit x (m % 16)
  have hqb : (((x : Int) / 2 ^ (m % 16)).tmod 2 == 1) = b := by
    have e := dig_bit hd1.out (q := m / 16) (r := m % 16) (Nat.mod_lt _ (by decide))
    rw [Nat.div_add_mod, hd2.out, hx] at e
    have e2 := HB.out
    unfold bitZ at e2
    rw [Int.toNat_natCast, e, decide_eq_true (by omega), Bool.true_and] at e2
    rw [hbit, ← e2, Bool.eq_iff_iff, beq_iff_eq, decide_eq_true_eq]
    omega
  clear FW hbit hx hxb hq1 hq2 hne hnn
  refine HFW.out.mono ?_
  rintro e w' ⟨rfl, rfl⟩
  go_wp2_with (fail)
  refine region (by kernel_rfl) (by kernel_rfl) fun _ => ?_
  repeat (go_big_quiet_step (first
    | (go_at_call 19; exact call (fun w => wshift_any a _ h1.out h2.out ha w) _)
    | (go_at_call 20; exact call (fun w => refShift_any a _ h1.out h2.out ha w) _)
    | (go_at_call 21; exact call (fun w => wlen8_any a ha w) _)
    | (go_at_call 22; exact len_call (fun u => rd32 u HD) hd1.out (by rw [HD.out.1]; decide) hd2.out _)
    | (go_at_call 23; exact call FB.out _)
    | (go_at_call 24; exact call (fun w => zero_any a ha.out w) _)
    | (go_at_call 25; exact call (fun w => of_any n hn w) _)
    | (go_at_call 17; exact call awake_any _)))
  refine wpQuiet_nil ?_
  rintro _ ⟨u', rfl⟩
  go_wp2_with (fail)
  go_ret
  exact ⟨rfl, u'.below⟩
theorem wideShifts_walk (a : Nat) (z : Int) (n : Nat) (w : World) (ha : Hid (a < M)) (h1 : -9223372036854775808 ≤ z) (h2 : z ≤ 9223372036854775807) (hn : Hid (n < 18446744073709551616)) :
    Calls Try.prog 4 #[wv a, .int .i64 z, .int .u64 n] w (TrueAt3 w) := by
  by_cases h : z < 0
  · exact wideShifts_low a z n w ha (Lib.hid h1) (Lib.hid h2) hn h
  · by_cases h' : 512 ≤ z
    · exact wideShifts_high a z n w ha (Lib.hid h1) (Lib.hid h2) hn h'
    · exact wideShifts_in a z n w ha (Lib.hid h1) (Lib.hid h2) hn ⟨by omega, by omega⟩
end Go.Proofs.Ytlphfpaefgcidaa.WideW
