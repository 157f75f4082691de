/-
  The walk of the law WideAdds.
-/
import Derived.Test.YtlphfpaefgcidaaWideLaws4
namespace Go.Proofs.Ytlphfpaefgcidaa.WideW
open Go.RowKit
open DigM WideM WideV KM DigW
set_option maxRecDepth 100000 in
set_option maxHeartbeats 6400000 in
theorem wideAdds_walk (a b : Nat) (w : World) (ha : Hid (a < M)) (hb : Hid (b < M)) : Calls Try.prog 3 #[wv a, wv b] w (TrueAt3 w) := by
  have HDA := Lib.hid (digits32_any a ha)
  have HDB := Lib.hid (digits32_any b hb)
  have FA := Lib.hid (fun w => wadd_any a b ha hb w)
  have FS := Lib.hid (fun w => wsub_any a b ha hb w)
  have FM := Lib.hid (fun w => wmul_any a b ha hb w)
  have RS := Lib.hid (fun w => refSub_any a b ha hb w)
  have FC := Lib.hid (fun w => wcmp_any a b ha hb w)
  have RC := Lib.hid (fun w => refCmp_any a b ha hb w)
  obtain ⟨s, hs⟩ : ∃ s, low (a + b) = s := ⟨_, rfl⟩
  obtain ⟨p, hp⟩ : ∃ p, low (a * b) = p := ⟨_, rfl⟩
  obtain ⟨d, hd⟩ : ∃ d, subL a b = d := ⟨_, rfl⟩
  obtain ⟨fs, hfs⟩ : ∃ f, fitB (a + b) = f := ⟨_, rfl⟩
  obtain ⟨fp, hfp⟩ : ∃ f, fitB (a * b) = f := ⟨_, rfl⟩
  obtain ⟨fd, hfd⟩ : ∃ f, leB b a = f := ⟨_, rfl⟩
  obtain ⟨c, hc⟩ : ∃ c, cmpI a b = c := ⟨_, rfl⟩
  rw [hs, hfs] at FA
  rw [hd, hfd] at FS RS
  rw [hp, hfp] at FM
  rw [hc] at FC RC
  have HS := Lib.hid hs
  have HP := Lib.hid hp
  have HFS := Lib.hid hfs
  have HFP := Lib.hid hfp
  clear hs hp hd hfs hfp hfd hc
  refine enter fun u => ?_
  go_enter Try.func3, Try.ntmps3
  go_wp2_with (first | ((with_reducible apply list_box); exact rfl; intro _ _))
  rename_i g2 u2 g3 u3 _ _
  have s1 : At8 g2 (cells 8 a) u3.w := fun j => by simp
  have s2 : At8 g3 (cells 8 b) u3.w := fun j => by simp
  go_region_held3 (fun w' => At8 g2 (cells 8 a) w' ∧ At8 g3 (cells 8 b) w') (first | exact ⟨s1, s2⟩ | (refine At8.both (by simp) (by simp) ?_ (by assumption); assumption))
    (first
      | (go_at_call 7; (with_reducible refine (HDA.out _).mono ?_); rintro e w1 ⟨v1, x, rfl, hx, o1, b1⟩)
      | (go_at_call 7; (with_reducible refine (HDB.out _).mono ?_); rintro e w2 ⟨v2, y, rfl, hy, o2, b2⟩))
  rename_i _ hHeld
  clear s1 s2 hHeld
  obtain ⟨gx, capx, curx, u5, hv1, HX, rfl⟩ := own32 u3.drew b1 o1 hx.2.2
  obtain ⟨gy, capy, cury, u6, hv2, HY, rfl⟩ := own32 u5 b2 o2 hy.2.2
  rw [hv1, hv2]
  obtain ⟨hx1, hx2, hx3⟩ := hx
  obtain ⟨hy1, hy2, hy3⟩ := hy
  have HX1 := Lib.hid hx1
  have HX2 := Lib.hid hx2
  have HX3 := Lib.hid hx3
  have HY1 := Lib.hid hy1
  have HY2 := Lib.hid hy2
  have HY3 := Lib.hid hy3
  clear hv1 hv2 hx1 hx2 hx3 hy1 hy2 hy3 b1 b2 o1 o2 u u2 u3 u5
  go_wp2_with (first
    | ((with_reducible apply list_alloc); exact zeroW; intro _ _)
    | ((with_reducible apply lst_load); exact rfl; infer_instance; exact rowW; exact cells_size _ _)
    | ((with_reducible apply lst_store); exact rfl; exact rfl; infer_instance; exact rowW; exact cells_size _ _; exact cells_size _ _; exact cells_one _ _; intro _)
    | (go_at_call 8; (with_reducible refine (FA.out _).mono ?_); rintro e w' ⟨rfl, hb'⟩; obtain ⟨_, rfl⟩ := KW.go _ hb'; clear hb')
    | (go_at_call 9; (with_reducible refine (FS.out _).mono ?_); rintro e w' ⟨rfl, hb'⟩; obtain ⟨_, rfl⟩ := KW.go _ hb'; clear hb')
    | (go_at_call 10; (with_reducible refine (FM.out _).mono ?_); rintro e w' ⟨rfl, hb'⟩; obtain ⟨_, rfl⟩ := KW.go _ hb'; clear hb'))
  refine (plus_any _ _ x y _ (rd32 _ HX) (rd32 _ HY) HX1.out HY1.out (by rw [HX3.out]; decide) (by rw [HY3.out]; decide)).mono ?_
  rintro e w1 ⟨v5, z, rfl, ⟨hz1, hz2, hz3⟩, o5, b5⟩
  have FW := refWide_any v5 z w1 o5.rd hz1 (by rw [HX3.out, HY3.out] at hz3; omega)
  rw [show low (val z) = s by rw [hz2, HX2.out, HY2.out, HS.out], show fitB (val z) = fs by rw [hz2, HX2.out, HY2.out, HFS.out]] at FW
  have HFW := Lib.hid FW
  clear FW hz1 hz2 hz3 o5
  go_wp2_with (fail)
  refine HFW.out.mono ?_
  rintro e w2 ⟨rfl, b6⟩
  obtain ⟨_, rfl⟩ := KW.go _ b5
  obtain ⟨_, rfl⟩ := KW.go _ b6
  clear HFW b5 b6
  go_wp2_with (first
    | ((with_reducible apply list_alloc); exact zeroW; intro _ _)
    | ((with_reducible apply lst_load); exact rfl; infer_instance; exact rowW; exact cells_size _ _)
    | ((with_reducible apply lst_store); exact rfl; exact rfl; infer_instance; exact rowW; exact cells_size _ _; exact cells_size _ _; exact cells_one _ _; intro _)
    | (go_at_call 13; (with_reducible refine (RS.out _).mono ?_); rintro e w' ⟨rfl, hb'⟩; obtain ⟨_, rfl⟩ := KW.go _ hb'; clear hb'))
  refine (times_any _ _ x y _ (rd32 _ HX) (rd32 _ HY) HX1.out HY1.out (by rw [HX3.out]; decide) (by rw [HY3.out]; decide)).mono ?_
  rintro e w1 ⟨v5, z, rfl, ⟨hz1, hz2, hz3⟩, o5, b5⟩
  have FW := refWide_any v5 z w1 o5.rd hz1 (by rw [HX3.out, HY3.out] at hz3; omega)
  rw [show low (val z) = p by rw [hz2, HX2.out, HY2.out, HP.out], show fitB (val z) = fp by rw [hz2, HX2.out, HY2.out, HFP.out]] at FW
  have HFW := Lib.hid FW
  clear FW hz1 hz2 hz3 o5
  go_wp2_with (fail)
  refine HFW.out.mono ?_
  rintro e w2 ⟨rfl, b6⟩
  obtain ⟨_, rfl⟩ := KW.go _ b5
  obtain ⟨_, rfl⟩ := KW.go _ b6
  clear HFW b5 b6
  go_wp2_with (first
    | ((with_reducible apply list_alloc); exact zeroW; intro _ _)
    | ((with_reducible apply lst_store); exact rfl; exact rfl; infer_instance; exact rowW; exact cells_size _ _; exact cells_size _ _; exact cells_one _ _; intro _))
  refine region (by kernel_rfl) (by kernel_rfl) fun _ => ?_
  repeat (go_big_quiet_step (first
    | (go_at_call 15; (with_reducible exact call FC.out _))
    | (go_at_call 16; (with_reducible exact call RC.out _))
    | (go_at_call 17; exact call awake_any _)))
  refine wpQuiet_nil ?_
  rintro _ ⟨u', rfl⟩
  go_wp2_with (fail)
  go_ret
  exact ⟨rfl, u'.below⟩
end Go.Proofs.Ytlphfpaefgcidaa.WideW
