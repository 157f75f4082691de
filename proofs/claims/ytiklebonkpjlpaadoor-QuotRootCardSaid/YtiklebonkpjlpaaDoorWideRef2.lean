/-
  The document's own number of digits, difference, order and shift of layer 3.
-/
import Derived.Test.YtiklebonkpjlpaaDoorWideRef
namespace Go.Proofs.YtiklebonkpjlpaaDoor.WideW
open Go.RowKit
open DigM WideM WideV KM DigW
theorem dg_zero {ds : List Nat} (h : val ds = 0) (j : Nat) : dg ds j = 0 := by
  have := dg_le ds j
  rw [h] at this
  exact (Nat.mul_eq_zero.1 (Nat.le_zero.1 this)).resolve_left (Nat.ne_of_gt (Nat.pow_pos (by decide)))
theorem val_zero : ∀ {ds : List Nat}, (∀ j, dg ds j = 0) → val ds = 0
  | [], _ => rfl
  | d :: ds, h => by
    have h0 : d = 0 := h 0
    have := val_zero (ds := ds) (fun j => h (j + 1))
    simp [val, h0, this]
theorem dg_drop (ds : List Nat) (k j : Nat) : dg (ds.drop k) j = dg ds (k + j) := by
  unfold dg
  simp [List.getD_eq_getElem?_getD, List.getElem?_drop]
theorem fit_digs {ds : List Nat} (hg : Digs ds) : (val ds < M) ↔ ∀ j, 32 ≤ j → dg ds j = 0 := by
  have e := val_drop_div ds 32 hg
  have eM : M = 65536 ^ 32 := by rw [M, Bp_dig]
  constructor
  · intro h j hj
    rw [eM] at h
    rw [Nat.div_eq_of_lt h] at e
    have := dg_zero e (j - 32)
    rw [dg_drop, show 32 + (j - 32) = j by omega] at this
    exact this
  · intro h
    have hz : val (ds.drop 32) = 0 := val_zero fun j => by rw [dg_drop]; exact h _ (by omega)
    rw [hz] at e
    rw [eM]
    exact (Nat.div_eq_zero_iff_lt (Nat.pow_pos (by decide))).1 e.symm
def WRel (ds : List Nat) (w : World) (g2 g4 : Nat) (i : Value) (wr : World) : Prop :=
  ∃ (k : Nat) (u : KW w [⟨g4, cells 8 (val ds % B ^ k), 24⟩, ⟨g2, cells 8 0, 24⟩]), i = .int .i64 k ∧ k ≤ 8 ∧ wr = u.w
def FRel (ds : List Nat) (w : World) (g2 g4 : Nat) (c i : Value) (wr : World) : Prop :=
  ∃ (m : Nat) (b : Bool) (u : KW w [⟨g4, cells 8 (low (val ds)), 24⟩, ⟨g2, cells 8 0, 24⟩]), i = .int .i64 m ∧ 32 ≤ m ∧ c = .bool b ∧ wr = u.w ∧ Hid (b = true ↔ ∀ j, 32 ≤ j → j < m → dg ds j = 0)
set_option maxHeartbeats 1600000 in
theorem refWide_any (v : Value) (ds : List Nat) (w : World) (hv : Rd w v ds) (hg : Digs ds) (hl : ds.length ≤ 1048576) : Calls Tryd.prog 27 #[v] w (Ret (.tuple #[wv (low (val ds)), .bool (fitB (val ds))]) w) := by
  have RV := hv
  obtain ⟨a0, cap, rfl, hcap, hcell⟩ := hv
  have HCELL := Lib.hid hcell
  clear hcell
  refine enter fun u => ?_
  go_enter Tryd.func27, Tryd.ntmps27
  have h0 := nought
  go_wp2_with (first | ((with_reducible apply list_alloc); exact zeroW; intro _ _) | ((with_reducible apply lst_store); exact rfl; exact rfl; infer_instance; exact rowW; exact cells_size _ _; exact cells_size _ _; exact cells_one _ _; intro _))
  rename_i g2 u2 g4 u3 u4 _ _
  clear h0
  go_loopw [5] (WRel ds w g2 g4) (fun i _ => 8 - (intOf i).toNat)
  case atStart =>
    have e : val ds % B ^ 0 = 0 := by simp [Nat.mod_one]
    have HX : ∃ u : KW w [⟨g4, cells 8 (val ds % B ^ 0), 24⟩, ⟨g2, cells 8 0, 24⟩], u4.w = u.w := by rw [e]; exact ⟨u4, rfl⟩
    obtain ⟨u', hu'⟩ := HX
    exact ⟨0, u', rfl, by decide, hu'⟩
  case round =>
    clear u2 u3 u4
    obtain ⟨k, u, rfl, hk, rfl⟩ := hrel
    by_cases hk8 : k < 8
    · obtain ⟨x, hx⟩ : ∃ x, wordAt ds (4 * k) = x := ⟨_, rfl⟩
      have hwd : wd (val ds) k = x := by rw [← hx, wordAt_eq ds (4 * k) hg, ← Bp_dig]; unfold wd; rw [B_eq]
      have F := word_is _ ds (4 * k) x u.w (RV.later u.below (Nat.le_refl _)) hg (Lib.hid hx) (by omega) (by omega)
      rw [show ((4 * k : Nat) : Int) = 4 * (k : Int) by omega] at F
      obtain ⟨u3, hu3⟩ := u.ex_put (j := k) (v := .int .u64 (x : Nat)) (c' := cells 8 (val ds % B ^ (k + 1))) (by rw [cells_set (by rw [← hwd]; exact wd_lt _ _), ← hwd, part_step])
      have HU := Lib.hid hu3
      have HF := Lib.hid F
      clear hu3 hx hwd F
      go_wp2_with (fail)
      refine HF.out.mono ?_
      rintro e w' ⟨rfl, rfl⟩
      go_wp2_with (fail)
      go_roundw
      case rel => exact ⟨k + 1, u3, by go_num, by omega, HU.out⟩
      case measure => simp [intOf]; omega
    · obtain rfl : k = 8 := by omega
      go_wp2_with (fail)
      obtain ⟨wo, hwo⟩ : ∃ wo : World, Hid (wo = u.w) := ⟨_, Lib.hid rfl⟩
      rw [← hwo.out]
      go_loopw [6, 7] (FRel ds w g2 g4) (fun _ i _ => ds.length - (intOf i).toNat)
      case atStart => exact ⟨32, true, u, rfl, by decide, rfl, hwo.out, Lib.hid ⟨fun _ j h1 h2 => by omega, fun _ => rfl⟩⟩
      case round =>
        clear u hwo
        obtain ⟨m, b, u, rfl, hm, rfl, rfl, hE⟩ := hrel
        by_cases hml : m < ds.length
        · cases b with
          | true =>
            obtain ⟨g, o, rfl, hgs, hc⟩ := HCELL.out m hml
            obtain ⟨x, hx⟩ : ∃ x, Hid (dg ds m = x) := ⟨_, Lib.hid rfl⟩
            rw [hx.out] at hc
            have hc' : u.w.cell? ⟨g, o + m, none⟩ = some (.int .u64 (x : Nat)) := (u.below.cell (p := ⟨g, o + m, none⟩) hgs).trans hc
            clear hc
            by_cases h0 : x = 0
            · subst h0
              have HN : Hid (true = true ↔ ∀ j, 32 ≤ j → j < m + 1 → dg ds j = 0) := Lib.hid ⟨fun _ j h1 h2 => by
                rcases Nat.lt_or_ge j m with h | h
                · exact hE.out.1 rfl j h1 h
                · obtain rfl : j = m := by omega
                  exact hx.out, fun _ => rfl⟩
              go_wp2_with (fail)
              go_roundw
              case rel => exact ⟨m + 1, true, u, by go_num, by omega, rfl, rfl, HN⟩
              case measure => simp [intOf]; omega
            · have hq := bq_no (show ¬ (x : Int) = 0 from by omega)
              have HN : Hid (false = true ↔ ∀ j, 32 ≤ j → j < m + 1 → dg ds j = 0) := Lib.hid ⟨(fun h => by cases h), fun h => absurd (hx.out.symm.trans (h m hm (by omega))) h0⟩
              clear h0
              go_wp2_with (fail)
              go_roundw
              case rel => exact ⟨m + 1, false, u, by go_num, by omega, rfl, rfl, HN⟩
              case measure => simp [intOf]; omega
          | false =>
            have HN : Hid (false = true ↔ ∀ j, 32 ≤ j → j < m + 1 → dg ds j = 0) := Lib.hid ⟨(fun h => by cases h), fun h => hE.out.2 fun j h1 h2 => h j h1 (by omega)⟩
            go_wp2_with (fail)
            go_roundw
            case rel => exact ⟨m + 1, false, u, by go_num, by omega, rfl, rfl, HN⟩
            case measure => simp [intOf]; omega
        · have HB : Hid (b = fitB (val ds)) := Lib.hid (by
            rw [Bool.eq_iff_iff, hE.out, fitB, decide_eq_true_eq, fit_digs hg]
            refine ⟨fun h j hj => ?_, fun h j hj _ => h j hj⟩
            rcases Nat.lt_or_ge j m with h' | h'
            · exact h j hj h'
            · exact dg_ge (by omega))
          go_wp2_with (first | ((with_reducible apply lst_load); exact rfl; infer_instance; exact rowW; exact cells_size _ _) | ((with_reducible apply lst_store); exact rfl; exact rfl; infer_instance; exact rowW; exact cells_size _ _; exact cells_size _ _; exact cells_one _ _; intro _))
          refine body_cell_tmp Tryd.results27 rfl rfl rowW (cells_size _ _) ⟨?_, KW.below _⟩
          rw [← HB.out]
          rfl
end Go.Proofs.YtiklebonkpjlpaaDoor.WideW
