/-
  The document's own shift of layer 3.
-/
import Derived.Test.YtlphfpaefgcidaaWideRef4
namespace Go.Proofs.Ytlphfpaefgcidaa.WideW
open Go.RowKit
open DigM WideM WideV KM DigW
def dcells (o : List Nat) : Array Value := (o.map (fun d => Value.int .u64 (d : Nat))).toArray
@[simp] theorem dcells_size (o : List Nat) : (dcells o).size = o.length := by simp [dcells]
theorem dcells_at {o : List Nat} {i x : Nat} (h : i < o.length) (hx : dg o i = x) : (dcells o)[i]'(by simp [h]) = .int .u64 (x : Nat) := by
  subst hx
  rw [dg_lt h]
  simp [dcells]
theorem dcells_set (o : List Nat) (i d : Nat) : (dcells o).setIfInBounds i (.int .u64 (d : Nat)) = dcells (o.set i d) := by
  unfold dcells
  rw [List.map_set]
  simp
/-- the bits below k are told -/
def BitK (f : Nat → Bool) (k : Nat) (o : List Nat) : Prop := Digs o ∧ o.length = 32 ∧ val o = ofBits f k
theorem BitK.start (f : Nat → Bool) : BitK f 0 (List.replicate 32 0) := ⟨Digs.rep _, by simp, by rw [val_rep]; rfl⟩
theorem BitK.no {f : Nat → Bool} {k : Nat} {o : List Nat} (h : BitK f k o) (hf : f k = false) : BitK f (k + 1) o := by
  obtain ⟨h1, h2, h3⟩ := h
  exact ⟨h1, h2, by rw [ofBits, hf, h3]; simp⟩
theorem BitK.room {f : Nat → Bool} {q r : Nat} {o : List Nat} (h : BitK f (16 * q + r) o) : dg o q < 2 ^ r := by
  have h1 := dg_le o q
  have h2 := ofBits_lt f (16 * q + r)
  rw [← h.2.2, Nat.pow_add, Nat.pow_mul] at h2
  exact Nat.lt_of_mul_lt_mul_left (Nat.lt_of_le_of_lt h1 h2)
theorem BitK.yes {f : Nat → Bool} {q r : Nat} {o : List Nat} (h : BitK f (16 * q + r) o) (hr : r < 16) (hq : q < 32) (hf : f (16 * q + r) = true) : BitK f (16 * q + r + 1) (o.set q (dg o q + 2 ^ r)) := by
  have hroom := h.room
  obtain ⟨h1, h2, h3⟩ := h
  have hp : 2 ^ r ≤ 2 ^ 15 := Nat.pow_le_pow_right (by decide) (by omega)
  refine ⟨h1.set _ _ (by omega), by simp [h2], ?_⟩
  have hs := val_set o q (dg o q + 2 ^ r) (by omega)
  rw [Nat.mul_add] at hs
  have e : 2 ^ (16 * q + r) = 65536 ^ q * 2 ^ r := by rw [Nat.pow_add, Nat.pow_mul]
  rw [ofBits, hf, if_pos rfl, ← h3, e]
  omega
def ShR (a : Nat) (z : Int) (w : World) (gd g4 g2 g6 : Nat) (cur : Array Value) (i : Value) (wr : World) : Prop :=
  ∃ (k : Nat) (o : List Nat) (u : KW w [⟨g6, dcells o, 22⟩, ⟨gd, cur, 22⟩, ⟨g4, cells 8 0, 24⟩, ⟨g2, cells 8 a, 24⟩]), i = .int .i64 k ∧ k ≤ 512 ∧ wr = u.w ∧ Hid (BitK (fun i => bitZ a ((i : Int) - z)) k o)
/-- bit 16 q + r of digits -/
theorem dig_bit {ds : List Nat} (hg : Digs ds) {q r : Nat} (hr : r < 16) : (val ds).testBit (16 * q + r) = decide (dg ds q / 2 ^ r % 2 = 1) := by
  have h1 := val_drop_div ds q hg
  have h2 := bit_of ds q r (by omega)
  rw [Nat.testBit_eq_decide_div_mod_eq, Nat.pow_add, Nat.pow_mul, ← Nat.div_div_eq_div_mul]
  rw [show (2 ^ 16 : Nat) = 65536 from rfl, ← h1, h2]
  refine decide_eq_decide.2 ?_
  omega
set_option maxRecDepth 100000 in
set_option maxHeartbeats 3200000 in
theorem refShift_any (a : Nat) (z : Int) (h1 : -9223372036854775808 ≤ z) (h2 : z ≤ 9223372036854775807) (ha : Hid (a < M)) (w : World) : Calls Try.prog 20 #[wv a, .int .i64 z] w (Ret (wv (shN a z)) w) := by
  have DA := digits32_any a ha
  obtain ⟨i0, hi, hz0, hz1, hz2⟩ := info_parts infoU
  refine enter fun u => ?_
  go_enter Try.func20, Try.ntmps20
  go_wp2_with (first | ((with_reducible apply list_box); exact rfl; intro _ _) | ((with_reducible apply list_alloc); exact zeroW; intro _ _) | ((with_reducible apply lst_load); exact rfl; infer_instance; exact rowW; exact cells_size _ _))
  refine (DA _).mono ?_
  rintro e w1 ⟨v, ds, rfl, ⟨hd1, hd2, hd3⟩, o1, b1⟩
  rename_i g2 u2 g4 u4 _ _ _ _
  obtain ⟨gd, cap, cur, u5, hv, hc1, hc2, hc3, hc4, rfl⟩ := u4.take_own b1 o1 (by omega)
  rw [hd3] at hv
  rw [hv]
  have hcur : ∀ j, j < 32 → cur[j]? = some (.int .u64 (dg ds j : Nat)) := fun j hj => by
    have e := congrArg (·[j]?) hc4
    simp only [List.getElem?_map] at e
    rw [List.getElem?_take, if_pos (by omega), List.getElem?_eq_getElem (show j < ds.length by omega)] at e
    rw [dg_lt (by omega)]
    simpa using e
  have HCUR := Lib.hid hcur
  have HD2 := Lib.hid hd2
  have HD3 := Lib.hid hd3
  have hcap1 : 32 ≤ cap := by omega
  have hcap2 : cap ≤ 9223372036854775807 := by unfold maxLen at hc2; omega
  have HC3 := Lib.hid hc3
  clear hc1 hc2 hc3 hc4 hcur b1 o1 hv u u2 u4 hd2 hd3
  go_wp2_with (at_make; refine wpList_make_full _ rfl _ _ 25 rfl u5.w.heap.size 22 i0 (.int .u64 0) 1 Try.underlying25 hi hz0 hz1 _ _ _ _ 32 rfl rfl rfl rfl ?b2 ?b3 (Nat.le_refl _) ?_)
  case b2 => rw [hz2]; decide
  case b3 => unfold maxLen; decide
  intro w3 hown hgrow
  have b3 : Below u5.w.heap.size u5.w w3 := Below.grown (Below.refl _ _) hgrow (Nat.le_refl _) (fun j hj => by cases hj)
  obtain ⟨g6, cap6, cur6, u6, hv6, k1, k2, k3, k4, rfl⟩ := u5.take_own b3 hown (by decide)
  have hg6 : u5.w.heap.size = g6 ∧ 32 = cap6 := by simpa using hv6
  obtain ⟨hg6, rfl⟩ := hg6
  have hcur6 : cur6 = dcells (List.replicate 32 0) := by
    apply Array.toList_inj.1
    rw [← List.take_length (l := cur6.toList), Array.length_toList, k3, k4]
    unfold dcells
    rw [List.map_replicate]
    exact toList_madeCells_one _ _
  subst hcur6
  rw [hg6]
  clear hg6 hv6 k1 k2 k3 k4 hgrow hown b3 u5 hi hz0 hz1 hz2 i0
  go_wp2_with (fail)
  go_loopw [7] (ShR a z w gd g4 g2 g6 cur) (fun i _ => 512 - (intOf i).toNat)
  case atStart => exact ⟨0, _, u6, rfl, by decide, rfl, Lib.hid (BitK.start _)⟩
  case round =>
    clear u6 h1 h2
    obtain ⟨k, o, u, rfl, hk, rfl, hB⟩ := hrel
    by_cases hk8 : k < 512
    · by_cases hz : -512 < z ∧ z < 512
      · by_cases hf0 : (k : Int) < z
        · have HN : Hid (BitK (fun i => bitZ a ((i : Int) - z)) (k + 1) o) := Lib.hid (hB.out.no (by
            show bitZ a ((k : Int) - z) = false
            unfold bitZ
            rw [decide_eq_false (by omega)]; rfl))
          have hz1 := hz.1
          have hz2 := hz.2
          go_wp2_with (fail)
          go_roundw
          case rel => exact ⟨k + 1, o, u, by go_num, by omega, rfl, HN⟩
          case measure => simp [intOf]; omega
        · obtain ⟨m, hm⟩ : ∃ m : Nat, (k : Int) - z = m := ⟨((k : Int) - z).toNat, by omega⟩
          by_cases hm5 : m < 512
          · have hz1 := hz.1
            have hz2 := hz.2
            obtain ⟨x, hx⟩ : ∃ x, Hid (dg ds (m / 16) = x) := ⟨_, Lib.hid rfl⟩
            have hcq := HCUR.out (m / 16) (by omega)
            rw [hx.out] at hcq
            have HBIT : Hid (bitZ a ((k : Int) - z) = decide (x / 2 ^ (m % 16) % 2 = 1)) := Lib.hid (by
              have e := dig_bit hd1 (q := m / 16) (r := m % 16) (Nat.mod_lt _ (by decide))
              rw [Nat.div_add_mod, HD2.out, hx.out] at e
              rw [hm, ← e]
              simp [bitZ])
            have hbit := shr_bit x (m % 16)
            by_cases hb : x / 2 ^ (m % 16) % 2 = 1
            · have hq := bq_yes (show ((x : Int) / 2 ^ (m % 16)).tmod 2 = 1 from by rw [hbit, hb]; rfl)
              obtain ⟨y, hy⟩ : ∃ y, Hid (dg o (k / 16) = y) := ⟨_, Lib.hid rfl⟩
              have hol : k / 16 < o.length := by have := hB.out.2.1; omega
              have hcy := dcells_at hol hy.out
              obtain ⟨q, hq'⟩ : ∃ q, k / 16 = q := ⟨_, rfl⟩
              obtain ⟨r, hr⟩ : ∃ r, k % 16 = r := ⟨_, rfl⟩
              have hkqr : k = 16 * q + r := by omega
              have hr16 : r < 16 := by omega
              have hB2 := hB.out
              rw [hkqr] at hB2
              have HN : Hid (BitK (fun i => bitZ a ((i : Int) - z)) (k + 1) (o.set (k / 16) (y + 2 ^ (k % 16)))) := Lib.hid (by
                have h := hB2.yes hr16 (by omega) (by rw [← hkqr]; exact HBIT.out.trans (decide_eq_true hb))
                rw [← hkqr] at h
                rw [hq', hr]
                rw [← hy.out, hq']
                exact h)
              have HV : Hid (IntKind.u64.wrap ((y : Int) + IntKind.u64.wrap (2 ^ (k % 16))) = ((y + 2 ^ (k % 16) : Nat) : Int)) := Lib.hid (by
                have hp : 2 ^ (k % 16) ≤ 2 ^ 15 := Nat.pow_le_pow_right (by decide) (by omega)
                have hyb : y < 65536 := by rw [← hy.out]; exact hB.out.1.dg _
                have e : (2 : Int) ^ (k % 16) = ((2 ^ (k % 16) : Nat) : Int) := by rw [Int.natCast_pow]; rfl
                rw [e]
                generalize 2 ^ (k % 16) = t at *
                rw [IntKind.wrap_u64, IntKind.wrap_u64]
                omega)
              obtain ⟨u3, hu3⟩ := u.ex_put (j := k / 16) (v := .int .u64 ((y + 2 ^ (k % 16) : Nat) : Int)) (dcells_set o (k / 16) (y + 2 ^ (k % 16)))
              have HU := Lib.hid hu3
              clear hu3 hB2 hq' hr hkqr hr16 q r hb hbit
              go_wp2_with (fail)
              go_roundw
              case rel => exact ⟨k + 1, _, u3, by go_num, by omega, by rw [HV.out]; exact HU.out, HN⟩
              case measure => simp [intOf]; omega
            · have hq := bq_no (show ¬ ((x : Int) / 2 ^ (m % 16)).tmod 2 = 1 from by rw [hbit]; omega)
              have HN : Hid (BitK (fun i => bitZ a ((i : Int) - z)) (k + 1) o) := Lib.hid (hB.out.no (by rw [HBIT.out]; exact decide_eq_false hb))
              clear hb hbit
              go_wp2_with (fail)
              go_roundw
              case rel => exact ⟨k + 1, o, u, by go_num, by omega, rfl, HN⟩
              case measure => simp [intOf]; omega
          · have HN : Hid (BitK (fun i => bitZ a ((i : Int) - z)) (k + 1) o) := Lib.hid (hB.out.no (by
              show bitZ a ((k : Int) - z) = false
              rw [hm]
              unfold bitZ
              rw [Int.toNat_natCast, bit_big ha.out (by omega)]
              simp))
            have hz1 := hz.1
            have hz2 := hz.2
            go_wp2_with (fail)
            go_roundw
            case rel => exact ⟨k + 1, o, u, by go_num, by omega, rfl, HN⟩
            case measure => simp [intOf]; omega
      · have HN : Hid (BitK (fun i => bitZ a ((i : Int) - z)) (k + 1) o) := Lib.hid (hB.out.no (by
          show bitZ a ((k : Int) - z) = false
          unfold bitZ
          by_cases h0 : (0 : Int) ≤ (k : Int) - z
          · rw [bit_big ha.out (by omega)]; simp
          · rw [decide_eq_false h0]; rfl))
        by_cases hz1 : -512 < z
        · have hz2 : 512 ≤ z := by omega
          go_wp2_with (fail)
          go_roundw
          case rel => exact ⟨k + 1, o, u, by go_num, by omega, rfl, HN⟩
          case measure => simp [intOf]; omega
        · have hz2 : z ≤ -512 := by omega
          go_wp2_with (fail)
          go_roundw
          case rel => exact ⟨k + 1, o, u, by go_num, by omega, rfl, HN⟩
          case measure => simp [intOf]; omega
    · obtain rfl : k = 512 := by omega
      obtain ⟨e1, e2, e3⟩ := hB.out
      have RD : Rd u.w (.slice (some ⟨g6, 0, none⟩) 32 32) o := ⟨some ⟨g6, 0, none⟩, 32, by rw [e2], ⟨by omega, by decide⟩, fun j hj => ⟨g6, 0, rfl, u.lt, by
        rw [Nat.zero_add, u.cell?, Array.getElem?_eq_getElem (by simpa using hj), dcells_at hj rfl]⟩⟩
      have FW := refWide_any _ o u.w RD e1 (by omega)
      rw [e3] at FW
      rw [show low (ofBits (fun i => bitZ a ((i : Int) - z)) 512) = shN a z from low_of (shN_lt a z)] at FW
      have HFW := Lib.hid FW
      clear FW RD e1 e2 e3 hB
      go_wp2_with (fail)
      refine HFW.out.mono ?_
      rintro e w' ⟨rfl, hb⟩
      obtain ⟨u7, rfl⟩ := u.go hb
      go_wp2_with (first | ((with_reducible apply list_alloc); exact zeroW; intro _ _) | ((with_reducible apply lst_load); exact rfl; infer_instance; exact rowW; exact cells_size _ _) | ((with_reducible apply lst_store); exact rfl; exact rfl; infer_instance; exact rowW; exact cells_size _ _; exact cells_size _ _; exact cells_one _ _; intro _))
      refine body_cell Try.results20 rfl rowW (cells_size _ _) ⟨rfl, KW.below _⟩
end Go.Proofs.Ytlphfpaefgcidaa.WideW
