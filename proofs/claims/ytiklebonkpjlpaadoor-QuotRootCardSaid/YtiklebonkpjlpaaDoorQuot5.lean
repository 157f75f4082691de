/-
  package quot: division by many words: a contract over the translation.
-/
import Derived.Test.YtiklebonkpjlpaaDoorQuot4
namespace Go.Proofs.YtiklebonkpjlpaaDoor.QuotW
open Go.RowKit
open DigM WideM WideV KM DigW WideW QuotM
theorem slice9 (g i j : Nat) (hij : i ≤ j) (hj : j ≤ 9) (hi : i < 9) (w : World) : (Instr.sliceAt 63 (.pointer (some ⟨g, 0, none⟩)) (some (.int .i64 (i : Nat))) (some (.int .i64 (j : Nat))) none).run Tryd.prog w = .ok (.slice (some ⟨g, i, none⟩) (j - i) (9 - i)) w := by
  have hal : Tryd.prog.arrayLen 63 = 9 := by kernel_rfl
  rw [run_sliceAt_array_lh w 63 ⟨g, 0, none⟩ (by simp [Program.arrayLen, Program.elem, Tryd.underlying63]) .i64 .i64 (i : Int) (j : Int) (by omega) (by omega) (by rw [hal]; omega)]
  go_simp
  omega
theorem slice8 (g j : Nat) (hj : j ≤ 8) (w : World) : (Instr.sliceAt 24 (.pointer (some ⟨g, 0, none⟩)) none (some (.int .i64 (j : Nat))) none).run Tryd.prog w = .ok (.slice (some ⟨g, 0, none⟩) j 8) w := by
  have hal : Tryd.prog.arrayLen 24 = 8 := by kernel_rfl
  rw [run_sliceAt_array_h w 24 ⟨g, 0, none⟩ (by simp [Program.arrayLen, Program.elem, Tryd.underlying24]) .i64 (j : Int) (by omega) (by rw [hal]; omega)]
  go_simp
theorem slice9h (g j : Nat) (hj : j ≤ 9) (w : World) : (Instr.sliceAt 63 (.pointer (some ⟨g, 0, none⟩)) none (some (.int .i64 (j : Nat))) none).run Tryd.prog w = .ok (.slice (some ⟨g, 0, none⟩) j 9) w := by
  have hal : Tryd.prog.arrayLen 63 = 9 := by kernel_rfl
  rw [run_sliceAt_array_h w 63 ⟨g, 0, none⟩ (by simp [Program.arrayLen, Program.elem, Tryd.underlying63]) .i64 (j : Int) (by omega) (by rw [hal]; omega)]
  go_simp
theorem perm5 (e9 e7 e6 e4 e3 : Ent) : [e9, e4, e6, e7, e3].Perm [e9, e7, e6, e4, e3] := ((List.reverse_perm [e7, e6, e4]).append_right [e3]).cons e9
def MnRel (a p v n : Nat) (w : World) (g3 g4 g6 g7 g9 : Nat) (i : Value) (wr : World) : Prop :=
  ∃ (m s t : Nat) (u : KW w [⟨g9, cells 9 t, 63⟩, ⟨g4, cells 8 v, 24⟩, ⟨g6, cells 8 s, 24⟩, ⟨g7, cells 8 0, 24⟩, ⟨g3, cells 8 a, 24⟩]), i = .int .i64 ((m : Int) - 1) ∧ m ≤ 9 - n ∧ wr = u.w ∧ Hid (ManyW p v n m s t)
/-- what a division by many words begins with, its numbers behind names -/
theorem many_parts (a b : Nat) (ha : Hid (a < M)) (hb : Hid (b < M)) (hn : 1 < wn b) : ∃ l k p v n d : Nat, wn b = d ∧ Hid (d = n + 2) ∧ 2 ≤ d ∧ d ≤ 8 ∧ k < 64 ∧ (64 * (d : Int) - l = k) ∧ l ≤ 512 ∧
    Hid (v < B ^ d ∧ B ≤ 2 * wd v (n + 1) ∧ ManyW p v d (9 - d) 0 p ∧ ∀ s t, ManyW p v d 0 s t → s = a / b ∧ shN (t % B ^ d) (-(k : Int)) = a % b) ∧
    Hid (∀ w, Calls Tryd.prog 32 #[wv b] w (Ret (.int .i64 (l : Nat)) w)) ∧
    Hid (∀ w, Calls Tryd.prog 38 #[wv a, .int .i64 k] w (Ret (.agg (cells 9 p)) w)) ∧
    Hid (∀ w, Calls Tryd.prog 31 #[wv b, .int .i64 k] w (Ret (wv v) w)) := by
  have h8 := wn_le hb.out
  obtain ⟨n, hw⟩ : ∃ n, wn b = n + 2 := ⟨wn b - 2, by omega⟩
  have hbl := bl_le hb.out
  have h1 : bl b ≤ 64 * (n + 2) := by unfold wn at hw; omega
  have h2 : 64 * (n + 2) < bl b + 64 := by unfold wn at hw; omega
  have hbp : 0 < b := by have := wn_big hn; have := B_pos; omega
  have hT := top_of hbp h1 h2
  have hT' := hT
  obtain ⟨hk, hv, hv2⟩ := hT'
  have hM8 : B ^ (n + 2) ≤ M := Nat.pow_le_pow_right B_pos (by omega)
  have FV := fun w => wshift_any b ((64 * (n + 2) - bl b : Nat) : Int) (by omega) (by omega) hb w
  rw [sh_left, low_of (by omega)] at FV
  refine ⟨bl b, 64 * (n + 2) - bl b, a * 2 ^ (64 * (n + 2) - bl b), b * 2 ^ (64 * (n + 2) - bl b), n, n + 2, hw, Lib.hid rfl, by omega, by omega, hk, by omega, hbl,
    Lib.hid ⟨hv, hT.word, hT.start ha.out (by omega), fun s t hM => ?_⟩, Lib.hid fun w => wlen8_any b hb w, Lib.hid fun w => shifted_any a _ ha hk w, Lib.hid FV⟩
  obtain ⟨e1, e2⟩ := Top.over hM
  refine ⟨e1, ?_⟩
  rw [e2]
  refine back_right ?_
  rw [← e2]
  exact Nat.lt_of_lt_of_le (Nat.mod_lt _ (Bp_pos _)) hM8
set_option maxRecDepth 100000 in
set_option maxHeartbeats 6400000 in
theorem overMany_any (a b : Nat) (ha : Hid (a < M)) (hb : Hid (b < M)) (hn : 1 < wn b) (w : World) : Calls Tryd.prog 23 #[wv a, wv b, .int .i64 (wn b : Nat)] w (Ret (.tuple #[wv (a / b), wv (a % b)]) w) := by
  obtain ⟨l, k, p, v, n, d, hwn, HD, hd2, hd8, hk, hlk, hl, HP, FLen, FSh, FV⟩ := many_parts a b ha hb hn
  rw [hwn]
  clear hn hwn
  have hw1 : IntKind.i64.wrap (64 * (d : Int) - l) = (k : Int) := by rw [hlk, IntKind.wrap_i64]; omega
  have hw0 : IntKind.i64.wrap (64 * (d : Int)) = 64 * (d : Int) := by rw [IntKind.wrap_i64]; omega
  have hw2 : IntKind.i64.wrap (8 - (d : Int)) = 8 - (d : Int) := by rw [IntKind.wrap_i64]; omega
  unfold wv
  refine enter fun u => ?_
  go_enter Tryd.func23, Tryd.ntmps23
  go_wp2_with (first
    | ((with_reducible apply list_box); exact rfl; intro _ _)
    | ((with_reducible apply list_alloc); exact zeroW; intro _ _)
    | ((with_reducible apply list_alloc); exact zero9; intro _ _)
    | ((with_reducible apply lst_load); exact rfl; infer_instance; exact rowW; exact cells_size _ _)
    | ((with_reducible apply lst_store); exact rfl; exact rfl; infer_instance; exact rowW; exact cells_size _ _; exact cells_size _ _; exact cells_one _ _; intro _)
    | ((with_reducible apply lst_store); exact rfl; exact rfl; infer_instance; exact row9; exact cells_size _ _; exact cells_size _ _; exact cells_one _ _; intro _)
    | (go_at_call 32; (with_reducible refine (FLen.out _).mono ?_); rintro e w' ⟨rfl, hb'⟩; obtain ⟨_, rfl⟩ := KW.go _ hb'; clear hb')
    | (go_at_call 38; (with_reducible refine (FSh.out _).mono ?_); rintro e w' ⟨rfl, hb'⟩; obtain ⟨_, rfl⟩ := KW.go _ hb'; clear hb')
    | (go_at_call 31; (with_reducible refine (FV.out _).mono ?_); rintro e w' ⟨rfl, hb'⟩; obtain ⟨_, rfl⟩ := KW.go _ hb'; clear hb'))
  rename_i g3 x1 g4 x2 g6 x3 g7 x4 x5 x6 g9 x7 x8 x9 u9 _ _
  obtain ⟨u1, hu1⟩ := u9.perm_ex (L' := [⟨g9, cells 9 p, 63⟩, ⟨g4, cells 8 v, 24⟩, ⟨g6, cells 8 0, 24⟩, ⟨g7, cells 8 0, 24⟩, ⟨g3, cells 8 a, 24⟩])
    (perm5 _ _ _ _ _)
  rw [hu1]
  clear hu1 x1 x2 x3 x4 x5 x6 x7 x8 x9 u9 hw0 hw1 hw2 FLen FSh FV hlk
  go_loopw [10] (MnRel a p v d w g3 g4 g6 g7 g9) (fun i _ => (intOf i + 1).toNat)
  case atStart => exact ⟨9 - d, 0, p, u1, vint (by omega), Nat.le_refl _, rfl, Lib.hid HP.out.2.2.1⟩
  case round =>
    clear u1
    obtain ⟨m, s, t, u, rfl, hm, rfl, hS⟩ := hrel
    cases m with
    | zero =>
      obtain ⟨hE1, hE2⟩ := HP.out.2.2.2 s t hS.out
      have HE := Lib.hid hE1
      obtain ⟨r, hr⟩ : ∃ r, t % B ^ d = r := ⟨_, rfl⟩
      have HR := Lib.hid hr
      rw [hr] at hE2
      have hrM : r < M := by rw [← hr]; exact Nat.lt_of_lt_of_le (Nat.mod_lt _ (Bp_pos _)) (Nat.pow_le_pow_right B_pos hd8)
      have FB := fun w => wshift_any r (-(k : Int)) (by omega) (by omega) (Lib.hid hrM) w
      rw [hE2] at FB
      have HFB := Lib.hid FB
      clear FB hE1 hE2 hr hrM
      have hsl := slice9h g9 d (by omega)
      go_wp2_with (fail)
      refine region_tail 3 (by kernel_rfl) (by kernel_rfl) fun _ => ?_
      simp only [List.take_succ_cons, List.take_zero, List.drop_succ_cons, List.drop_zero]
      repeat (go_big_quiet_step (fail))
      refine wpQuiet_nil ?_
      rintro _ ⟨u', rfl⟩
      refine list_copy0 (m := 8) (m' := 9) (n := d) rfl rfl Tryd.underlying38 size1 rfl rfl (Nat.min_eq_left hd8).symm hd8 (by omega) HR.out ?_
      intro u1
      clear hsl
      have hwn : IntKind.i64.wrap (-(k : Int)) = -(k : Int) := by rw [IntKind.wrap_i64]; omega
      go_wp2_with (fail)
      simp only [Act.put, List.setIfInBounds_toArray, List.set_cons_succ, List.set_cons_zero]
      refine region_tail 5 (by kernel_rfl) (by kernel_rfl) fun _ => ?_
      simp only [List.take_succ_cons, List.take_zero, List.drop_succ_cons, List.drop_zero]
      repeat (go_big_quiet_step (first | (with_reducible exact call HFB.out _)))
      refine wpQuiet_nil ?_
      rintro _ ⟨u2, rfl⟩
      go_wp2_with (first
        | ((with_reducible apply lst_store); exact rfl; exact rfl; infer_instance; exact rowW; exact cells_size _ _; exact cells_size _ _; exact cells_one _ _; intro _))
      refine body_cell2 Tryd.results23 rfl rfl rowW (cells_size _ _) rowW (cells_size _ _) ⟨?_, KW.below _⟩
      rw [HE.out]
    | succ i =>
      have ei : ((i + 1 : Nat) : Int) - 1 = i := by omega
      rw [ei]
      clear ei
      obtain ⟨x0, hx0⟩ : ∃ x, Hid (wd t (i + d) = x) := ⟨_, Lib.hid rfl⟩
      obtain ⟨x1, hx1⟩ : ∃ x, Hid (wd t (i + (n + 1)) = x) := ⟨_, Lib.hid rfl⟩
      obtain ⟨x2, hx2⟩ : ∃ x, Hid (wd t (i + n) = x) := ⟨_, Lib.hid rfl⟩
      obtain ⟨y1, hy1⟩ : ∃ y, Hid (wd v (n + 1) = y) := ⟨_, Lib.hid rfl⟩
      obtain ⟨y2, hy2⟩ : ∃ y, Hid (wd v n = y) := ⟨_, Lib.hid rfl⟩
      have hdn := HD.out
      have hG : ∃ q : Nat, Hid (q < B ∧ t % B ^ (i + 1 + d) / (v * B ^ i) ≤ q ∧ q ≤ t % B ^ (i + 1 + d) / (v * B ^ i) + 1) ∧
          Hid (∀ w, Calls Tryd.prog 39 #[.int .u64 x0, .int .u64 x1, .int .u64 x2, .int .u64 y1, .int .u64 y2] w (fun e w' => e = .returned (.int .u64 (q : Nat)) ∧ ∃ n, w' = w.drewN n)) := by
        have hP := HP.out
        have hT := hS.out
        rw [hdn] at hP hT
        have htop := hT.top hP.1
        rw [← hdn, hx0.out, hy1.out] at htop
        obtain ⟨q, hq, F⟩ := guess_fix x0 x1 x2 y1 y2 htop (by rw [← hx1.out]; exact wd_lt _ _) (by rw [← hx2.out]; exact wd_lt _ _) (by rw [← hy1.out]; exact wd_lt _ _) (by rw [← hy2.out]; exact wd_lt _ _)
        have hq' := hq.out
        rw [← hx0.out, ← hx1.out, ← hx2.out, ← hy1.out, ← hy2.out, hdn] at hq'
        have := hT.guess hP.1 hP.2.1 hq'
        rw [← hdn] at this
        exact ⟨q, Lib.hid ⟨this.2.2, this.1, this.2.1⟩, Lib.hid F⟩
      obtain ⟨q, HQ, HG⟩ := hG
      have hi8 : i + d < 9 := by omega
      obtain ⟨k0, hk0⟩ : ∃ k0, k0 = i + d := ⟨_, rfl⟩
      obtain ⟨k1, hk1⟩ : ∃ k1, k1 = i + (n + 1) := ⟨_, rfl⟩
      obtain ⟨k2, hk2⟩ : ∃ k2, k2 = i + n := ⟨_, rfl⟩
      obtain ⟨j1, hj1⟩ : ∃ j1, j1 = n + 1 := ⟨_, rfl⟩
      have b0 : k0 < 9 := by omega
      have b1 : k1 < 9 := by omega
      have b2 : k2 < 9 := by omega
      have b3 : j1 < 8 := by omega
      have b4 : n < 8 := by omega
      have c0 := cells_at b0 (show wd t k0 = x0 by rw [hk0]; exact hx0.out)
      have c1 := cells_at b1 (show wd t k1 = x1 by rw [hk1]; exact hx1.out)
      have c2 := cells_at b2 (show wd t k2 = x2 by rw [hk2]; exact hx2.out)
      have e1 := cells_at b3 (show wd v j1 = y1 by rw [hj1]; exact hy1.out)
      have e2 := cells_at b4 (show wd v n = y2 from hy2.out)
      have b5 : i < 8 := by omega
      have w0 : IntKind.i64.wrap ((i : Int) + d) = (k0 : Int) := by rw [IntKind.wrap_i64]; omega
      have w1 : IntKind.i64.wrap ((k0 : Int) - 1) = (k1 : Int) := by rw [IntKind.wrap_i64]; omega
      have w2 : IntKind.i64.wrap ((k0 : Int) - 2) = (k2 : Int) := by rw [IntKind.wrap_i64]; omega
      have w3 : IntKind.i64.wrap ((d : Int) - 1) = (j1 : Int) := by rw [IntKind.wrap_i64]; omega
      have w4 : IntKind.i64.wrap ((d : Int) - 2) = (n : Int) := by rw [IntKind.wrap_i64]; omega
      have HK0 := Lib.hid hk0
      clear hdn hk0 hk1 hk2 hj1 hx0 hx1 hx2 hy1 hy2 HD hd2 hm
      go_wp2_with (fail)
      refine region (by kernel_rfl) (by kernel_rfl) fun _ => ?_
      repeat (go_big_quiet_step (first | (with_reducible exact call_drew HG.out _)))
      refine wpQuiet_nil ?_
      rintro _ ⟨u2, rfl⟩
      clear c0 c1 c2 e1 e2 w1 w2 w3 w4 b0 b1 b2 b3 b4
      have w5 : IntKind.i64.wrap ((k0 : Int) + 1) = (k0 : Int) + 1 := by have := HK0.out; rw [IntKind.wrap_i64]; omega
      have hsl1 := slice9 g9 i (k0 + 1) (by have := HK0.out; omega) (by have := HK0.out; omega) (by omega)
      rw [show k0 + 1 - i = d + 1 by have := HK0.out; omega, show ((k0 + 1 : Nat) : Int) = (k0 : Int) + 1 from rfl] at hsl1
      have hsl2 := slice8 g4 d hd8
      go_wp2_with (fail)
      refine region_tail 9 (by kernel_rfl) (by kernel_rfl) fun _ => ?_
      simp only [List.take_succ_cons, List.take_zero, List.drop_succ_cons, List.drop_zero]
      repeat (go_big_quiet_step (fail))
      refine wpQuiet_nil ?_
      rintro _ ⟨u3, rfl⟩
      clear w5 hsl1
      go_wp2_with (fail)
      refine (lessen_any u3 hi8 (Lib.hid HQ.out.1) (Lib.hid hS.out.2.2.2)).mono ?_
      rintro e w' ⟨c, b', x, o, t', u4, rfl, rfl, HL⟩
      by_cases ho : o = 1
      · subst ho
        have hL := HL.out
        obtain ⟨q1, hq1⟩ : ∃ q1, q1 = q - 1 := ⟨_, rfl⟩
        have hqp := LessW.pos hS.out hL.1 HP.out.1 hL.2.2.1 hL.2.2.2.2
        have w6 : IntKind.u64.wrap ((q : Int) - 1) = (q1 : Int) := by rw [IntKind.wrap_u64]; have := HQ.out.1; rw [B_eq] at this; omega
        have HQ1 := Lib.hid hq1
        have hsl3 := slice9 g9 i k0 (by have := HK0.out; omega) (by have := HK0.out; omega) (by omega)
        rw [show k0 - i = d by have := HK0.out; omega] at hsl3
        clear hL hq1 hqp
        go_wp2_with (fail)
        refine region_tail 7 (by kernel_rfl) (by kernel_rfl) fun _ => ?_
        simp only [List.take_succ_cons, List.take_zero, List.drop_succ_cons, List.drop_zero]
        repeat (go_big_quiet_step (fail))
        refine wpQuiet_nil ?_
        rintro _ ⟨u5, rfl⟩
        clear w6 hsl3 hsl2 w0
        go_wp2_with (fail)
        refine (raise_any u5 hi8 (Lib.hid HL.out.2.1)).mono ?_
        rintro e w' ⟨c2, t2, u6, rfl, rfl, HR⟩
        have HN : Hid (ManyW p v d i (put s i q1) t2) := Lib.hid (by rw [HQ1.out]; exact (LessW.mend hS.out HL.out.1 HR.out.1 HP.out.1 HR.out.2 HQ.out.2.2 HL.out.2.2.1 HL.out.2.2.2.2).2)
        have hqb : q1 < B := by rw [HQ1.out]; have := HQ.out.1; omega
        obtain ⟨u7, hu7⟩ := u6.ex_put2 (j := i) (v := .int .u64 (q1 : Nat)) (cells_set hqb)
        have HU := Lib.hid hu7
        clear hu7 hqb
        go_wp2_with (fail)
        go_roundw
        case rel => exact ⟨i, put s i q1, t2, u7, by go_num, by have := HK0.out; omega, HU.out, HN⟩
        case measure => simp [intOf]
      · have HO : Hid (o = 0) := Lib.hid (by have := HL.out.2.2.2.1; omega)
        have HN : Hid (ManyW p v d i (put s i q) t') := Lib.hid (LessW.right hS.out HL.out.1 HP.out.1 HL.out.2.1 HQ.out.2.1 (by have := HL.out.2.2.2.2; rw [HO.out] at this; exact this))
        have hqb := HQ.out.1
        obtain ⟨u7, hu7⟩ := u4.ex_put2 (j := i) (v := .int .u64 (q : Nat)) (cells_set hqb)
        have HU := Lib.hid hu7
        clear hu7 hqb hsl2 w0
        go_wp2_with (fail)
        go_roundw
        case rel => exact ⟨i, put s i q, t', u7, by go_num, by have := HK0.out; omega, HU.out, HN⟩
        case measure => simp [intOf]
end Go.Proofs.YtiklebonkpjlpaaDoor.QuotW
