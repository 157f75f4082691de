/-
  The walk of the law QuotRoot.
-/
import Derived.Test.YtiklebonkpjlpaaDoorQuotLaws
namespace Go.Proofs.YtiklebonkpjlpaaDoor.QuotW
open Go.RowKit
open DigM WideM WideV KM DigW WideW QuotM DecM FmtW
open Go.Lib (decDigits nDigits)
theorem rdOne (w : World) (t : TypeId) : Rd (w.alloc (.cells #[.int .u64 1] t)) (.slice (some ⟨w.heap.size, 0, none⟩) 1 1) [1] := by
  refine ⟨_, 1, rfl, ⟨by decide, by decide⟩, fun j hj => ⟨w.heap.size, 0, rfl, by simp, ?_⟩⟩
  obtain rfl : j = 0 := by simp at hj; omega
  rw [World.cell?_alloc_new]
  rfl
theorem str_same (s : ByteArray) : (s.toList == s.toList) = true := by simp
set_option maxRecDepth 100000 in
set_option maxHeartbeats 6400000 in
theorem quotRoot_walk (a : Nat) (ha : Hid (a < M)) (w : World) (ht : Tab w) : Calls Tryd.prog 5 #[wv a] w (TrueAt4 w) := by
  have HA := Lib.hid (fun w (ht : Tab w) => awake4_any w ht)
  have HT := Lib.hid ht
  have HX := Lib.hid (fun w (ht : Tab w) => text_any a ha w ht)
  have HY := Lib.hid (fun w => refText_any a ha w)
  have HDA := Lib.hid (fun w => digits32_any a ha w)
  obtain ⟨s, hs⟩ : ∃ s : ByteArray, s = ⟨(decDigits a).toArray⟩ := ⟨_, rfl⟩
  unfold vs at HX
  rw [← hs] at HX HY
  clear ht hs
  refine enter fun u => ?_
  go_enter Tryd.func5, Tryd.ntmps5
  go_wp2_with (first
    | ((with_reducible apply list_box); exact rfl; intro _ _)
    | ((with_reducible apply lst_load); exact rfl; infer_instance; exact rowW; exact cells_size _ _))
  refine (root_any a ha _).mono ?_
  rintro e w1 ⟨x, rfl, b1, HR⟩
  obtain ⟨u1, rfl⟩ := KW.go _ b1
  have hxM := Lib.hid HR.out.2.1
  clear b1
  go_wp2_with (first
    | ((with_reducible apply list_alloc); exact zeroW; intro _ _)
    | ((with_reducible apply lst_load); exact rfl; infer_instance; exact rowW; exact cells_size _ _)
    | ((with_reducible apply lst_store); exact rfl; exact rfl; infer_instance; exact rowW; exact cells_size _ _; exact cells_size _ _; exact cells_one _ _; intro _))
  refine (digits32_any x hxM _).mono ?_
  rintro e w2 ⟨v1, d, rfl, ⟨hd1, hd2, hd3⟩, o2, b2⟩
  have R2 := o2.rd
  obtain ⟨u2, rfl⟩ := KW.go _ b2
  have HD2 := Lib.hid hd2
  have HD3 := Lib.hid hd3
  clear hd2 hd3 o2 b2
  go_wp2_with (fail)
  have bA := (Below.refl u2.w.heap.size u2.w).alloc (Nat.le_refl _) (.cells #[.int .u64 1] 22)
  refine (plus_any v1 (.slice (some ⟨u2.w.heap.size, 0, none⟩) 1 1) d [1] _ (R2.later bA (Nat.le_refl _)) (rdOne u2.w 22) hd1 (by intro z hz; simp at hz; omega) (by have := HD3.out; omega) (by decide)).mono ?_
  rintro e w3 ⟨v2, o, rfl, ⟨hp1, hp2, hp3⟩, o3, b3⟩
  have b03 := bA.trans (b3.mono bA.size)
  have R2' := R2.later b03 (Nat.le_refl _)
  have R3 := o3.rd
  obtain ⟨u3, rfl⟩ := KW.go _ b03
  have HP2 : Hid (val o = x + 1) := Lib.hid (by rw [hp2, HD2.out]; rfl)
  have HP3 : Hid (o.length ≤ 33) := Lib.hid (by have := HD3.out; simp at hp3; omega)
  clear hp2 hp3 o3 b3 b03 R2 bA
  go_wp2_with (fail)
  refine region_mix [(true, 0), (true, 2), (true, 3), (false, 1), (false, 4), (false, 5), (true, 6), (true, 7), (true, 8), (true, 10), (true, 11), (false, 9), (false, 12), (false, 13), (true, 14), (true, 15), (true, 16), (true, 18), (false, 17), (false, 19), (true, 20), (true, 21), (true, 22), (false, 23), (true, 24), (false, 25)] _ (Sub.both (h := Sub.both (h := Sub.nil))) (by kernel_rfl) (by kernel_rfl) (fun _ _ _ _ _ h => by simp only [Exit.then, Exit.inBlock, bodyPost, defers_put] at h ⊢; exact h) ?_
  intro u4 b4
  have R2 := R2'.later b4 (Nat.le_refl _)
  have R3 := R3.later b4 (Nat.le_refl _)
  clear b4 R2'
  simp only [picks, List.filterMap_cons, List.filterMap_nil, List.getElem?_cons_zero, List.getElem?_cons_succ, Option.map_some]
  refine mixg_load (by rfl) rfl inferInstance rowW (cells_size _ _) ?_
  simp only [Act.put, List.setIfInBounds_toArray, List.set_cons_succ, List.set_cons_zero]
  refine mixg_value (v := v1) (by rfl) (by intro w; go_simp) ?_
  simp only [Act.put, List.setIfInBounds_toArray, List.set_cons_succ, List.set_cons_zero]
  refine mixg_value (v := v1) (by rfl) (by intro w; go_simp) ?_
  simp only [Act.put, List.setIfInBounds_toArray, List.set_cons_succ, List.set_cons_zero]
  refine mixg_enter (f := 15) (args := #[wv a]) (by rfl) (by go_simp) ?_
  refine (HDA.out _).mono ?_
  rintro e w5 ⟨v3, dx, rfl, ⟨hx1, hx2, hx3⟩, o5, b5⟩
  have R4 := o5.rd
  have R2 := R2.later b5 (Nat.le_refl _)
  have R3 := R3.later b5 (Nat.le_refl _)
  obtain ⟨u5, rfl⟩ := u4.go b5
  refine ⟨v3, rfl, ⟨u5, rfl⟩, ?_⟩
  simp only [Act.put, List.setIfInBounds_toArray, List.set_cons_succ, List.set_cons_zero]
  refine mixg_enter (f := 18) (args := #[v1, v1]) (by rfl) (by go_simp) ?_
  refine (times_any _ _ d d _ R2 R2 hd1 hd1 (by have := HD3.out; omega) (by have := HD3.out; omega)).mono ?_
  rintro e w6 ⟨v4, dd, rfl, ⟨hy1, hy2, hy3⟩, o6, b6⟩
  have R5 := o6.rd
  have R4 := R4.later b6 (Nat.le_refl _)
  have R2 := R2.later b6 (Nat.le_refl _)
  have R3 := R3.later b6 (Nat.le_refl _)
  obtain ⟨u6, rfl⟩ := u5.go b6
  refine ⟨v4, rfl, ⟨u6, rfl⟩, ?_⟩
  simp only [Act.put, List.setIfInBounds_toArray, List.set_cons_succ, List.set_cons_zero]
  refine mixg_enter (f := 17) (args := #[v3, v4]) (by rfl) (by go_simp) ?_
  refine (less_any _ _ dx dd _ R4 R5 hx1 hy1 (by omega) (by rw [hy3]; have := HD3.out; omega)).mono ?_
  rintro e w7 ⟨rfl, rfl⟩
  have hless : lessB dx dd = false := by unfold lessB; rw [hx2, hy2, HD2.out]; exact decide_eq_false (by have := HR.out.1.1; omega)
  refine ⟨_, rfl, ⟨u6, rfl⟩, ?_⟩
  rw [hless]
  simp only [Act.put, List.setIfInBounds_toArray, List.set_cons_succ, List.set_cons_zero]
  clear hless hx1 hx2 hx3 hy1 hy2 hy3 R4 R5
  refine mixg_value (v := .bool true) (by rfl) (by intro w; go_simp) ?_
  simp only [Act.put, List.setIfInBounds_toArray, List.set_cons_succ, List.set_cons_zero]
  refine mixg_value (v := .bool true) (by rfl) (by intro w; go_simp) ?_
  simp only [Act.put, List.setIfInBounds_toArray, List.set_cons_succ, List.set_cons_zero]
  refine mixg_load (by rfl) rfl inferInstance rowW (cells_size _ _) ?_
  simp only [Act.put, List.setIfInBounds_toArray, List.set_cons_succ, List.set_cons_zero]
  refine mixg_value (v := v2) (by rfl) (by intro w; go_simp) ?_
  simp only [Act.put, List.setIfInBounds_toArray, List.set_cons_succ, List.set_cons_zero]
  refine mixg_value (v := v2) (by rfl) (by intro w; go_simp) ?_
  simp only [Act.put, List.setIfInBounds_toArray, List.set_cons_succ, List.set_cons_zero]
  refine mixg_enter (f := 15) (args := #[wv a]) (by rfl) (by go_simp) ?_
  refine (HDA.out _).mono ?_
  rintro e w5 ⟨v5, ex, rfl, ⟨hx1, hx2, hx3⟩, o5, b5⟩
  have R4 := o5.rd
  have R2 := R2.later b5 (Nat.le_refl _)
  have R3 := R3.later b5 (Nat.le_refl _)
  obtain ⟨u15, rfl⟩ := u6.go b5
  refine ⟨v5, rfl, ⟨u15, rfl⟩, ?_⟩
  simp only [Act.put, List.setIfInBounds_toArray, List.set_cons_succ, List.set_cons_zero]
  refine mixg_enter (f := 18) (args := #[v2, v2]) (by rfl) (by go_simp) ?_
  refine (times_any _ _ o o _ R3 R3 hp1 hp1 (by have := HP3.out; omega) (by have := HP3.out; omega)).mono ?_
  rintro e w6 ⟨v6, ee, rfl, ⟨hy1, hy2, hy3⟩, o6, b6⟩
  have R5 := o6.rd
  have R4 := R4.later b6 (Nat.le_refl _)
  have R2 := R2.later b6 (Nat.le_refl _)
  have R3 := R3.later b6 (Nat.le_refl _)
  obtain ⟨u16, rfl⟩ := u15.go b6
  refine ⟨v6, rfl, ⟨u16, rfl⟩, ?_⟩
  simp only [Act.put, List.setIfInBounds_toArray, List.set_cons_succ, List.set_cons_zero]
  refine mixg_enter (f := 17) (args := #[v5, v6]) (by rfl) (by go_simp) ?_
  refine (less_any _ _ ex ee _ R4 R5 hx1 hy1 (by omega) (by rw [hy3]; have := HP3.out; omega)).mono ?_
  rintro e w7 ⟨rfl, rfl⟩
  have hless : lessB ex ee = true := by unfold lessB; rw [hx2, hy2, HP2.out]; exact decide_eq_true HR.out.1.2
  refine ⟨_, rfl, ⟨u16, rfl⟩, ?_⟩
  rw [hless]
  simp only [Act.put, List.setIfInBounds_toArray, List.set_cons_succ, List.set_cons_zero]
  refine mixg_value (v := .bool true) (by rfl) (by intro w; go_simp) ?_
  simp only [Act.put, List.setIfInBounds_toArray, List.set_cons_succ, List.set_cons_zero]
  refine mixg_value (v := .bool true) (by rfl) (by intro w; go_simp) ?_
  simp only [Act.put, List.setIfInBounds_toArray, List.set_cons_succ, List.set_cons_zero]
  refine mixg_load (by rfl) rfl inferInstance rowW (cells_size _ _) ?_
  simp only [Act.put, List.setIfInBounds_toArray, List.set_cons_succ, List.set_cons_zero]
  refine mixg_load (by rfl) rfl inferInstance rowW (cells_size _ _) ?_
  simp only [Act.put, List.setIfInBounds_toArray, List.set_cons_succ, List.set_cons_zero]
  refine mixg_enter (f := 19) (args := #[wv a]) (by rfl) (by go_simp) ?_
  refine (HX.out _ (HT.out.later (KW.below _) (Nat.le_refl _))).mono ?_
  rintro e w8 ⟨rfl, b8⟩
  obtain ⟨u8, rfl⟩ := u16.go b8
  refine ⟨_, rfl, ⟨u8, rfl⟩, ?_⟩
  simp only [Act.put, List.setIfInBounds_toArray, List.set_cons_succ, List.set_cons_zero]
  refine mixg_enter (f := 20) (args := #[wv a]) (by rfl) (by go_simp) ?_
  refine (HY.out _).mono ?_
  rintro e w9 ⟨rfl, b9⟩
  obtain ⟨u9, rfl⟩ := u8.go b9
  refine ⟨_, rfl, ⟨u9, rfl⟩, ?_⟩
  simp only [Act.put, List.setIfInBounds_toArray, List.set_cons_succ, List.set_cons_zero]
  refine mixg_value (v := .bool true) (by rfl) (by intro w; go_simp) ?_
  simp only [Act.put, List.setIfInBounds_toArray, List.set_cons_succ, List.set_cons_zero]
  refine mixg_value (v := .bool true) (by rfl) (by intro w; go_simp) ?_
  simp only [Act.put, List.setIfInBounds_toArray, List.set_cons_succ, List.set_cons_zero]
  refine mixg_value (v := .bool true) (by rfl) (by intro w; go_simp) ?_
  simp only [Act.put, List.setIfInBounds_toArray, List.set_cons_succ, List.set_cons_zero]
  refine mixg_enter (f := 7) (args := #[]) (by rfl) (by go_simp) ?_
  refine (HA.out _ (HT.out.later (KW.below _) (Nat.le_refl _))).mono ?_
  rintro e w10 ⟨rfl, b10⟩
  obtain ⟨u10, rfl⟩ := u9.go b10
  refine ⟨_, rfl, ⟨u10, rfl⟩, ?_⟩
  simp only [Act.put, List.setIfInBounds_toArray, List.set_cons_succ, List.set_cons_zero]
  refine mixg_value (v := .bool true) (by rfl) (by intro w; go_simp) ?_
  simp only [Act.put, List.setIfInBounds_toArray, List.set_cons_succ, List.set_cons_zero]
  refine mix_then (v := .bool true) (by go_simp) ⟨u10, rfl⟩ ?_
  simp only [Act.put, List.setIfInBounds_toArray, List.set_cons_succ, List.set_cons_zero]
  refine mix_nil ?_
  go_wp2_with (fail)
  go_ret
  exact ⟨rfl, KW.below _⟩
end Go.Proofs.YtiklebonkpjlpaaDoor.QuotW
