/-
  The document's own answers of layer 5: product, order, digits: contracts over the translation.
-/
import Derived.Test.YtmmnekcnaohnbaaDoorSignRef
namespace Go.Proofs.YtmmnekcnaohnbaaDoor.SignW
open Go.RowKit
open DigM WideM WideV KM DigW WideW QuotW QuotM DecM FmtW SignM
open Go.Lib (decDigits nDigits)
set_option maxRecDepth 100000 in
set_option maxHeartbeats 12800000 in
theorem rmul_fit (s t : Bool) (a b : Nat) (ha : Hid (a < M)) (hb : Hid (b < M)) (hf : a * b < M) (w : World) : Calls Tryd.prog 13 #[iv s a, iv t b] w (Ret (fv (sg s a * sg t b)) w) := by
  have HDA := Lib.hid (fun w => digits32_any a ha w)
  have HDB := Lib.hid (fun w => digits32_any b hb w)
  obtain ⟨r, hr⟩ : ∃ r, r = (s != t) := ⟨_, rfl⟩
  rw [← sg_mul, fv_fit (by rw [sg_abs]; exact hf), ← hr]
  have hL : low (a * b) = a * b := low_of hf
  have hBt : fitB (a * b) = true := decide_eq_true hf
  have HF := Lib.hid (fun w => rfix_any r (a * b) (Lib.hid hf) w)
  obtain ⟨q, hq⟩ : ∃ q, a * b = q := ⟨_, rfl⟩
  rw [hq] at HF ⊢
  rw [hq] at hL hBt
  have hx0 := hq
  clear hf
  refine enter fun u => ?_
  go_enter Tryd.func13, Tryd.ntmps13
  go_wp2_with (first
    | ((with_reducible apply list_box); exact rfl; intro _ _)
    | ((with_reducible apply ls_alloc); infer_instance; intro _ _))
  try simp only [Act.put, List.setIfInBounds_toArray, List.set_cons_succ, List.set_cons_zero]
  refine region_float [(true, 0), (true, 1), (true, 3), (true, 4), (false, 2), (false, 5), (false, 6), (false, 7), (true, 8), (true, 9), (true, 10)] 11 [(false, 12), (false, 13)] _ _ (Sub.both (h := Sub.both (h := Sub.both (h := Sub.nil)))) (by kernel_rfl) rfl (by kernel_rfl) (fun _ _ _ _ _ h => by first | (simp only [Exit.then, bodyPost, defers_put] at h ⊢; exact h) | (simp only [Exit.then, Exit.inBlock, bodyPost, defers_put] at h ⊢; exact h)) ?_
  intro u5 _
  simp only [picks, List.filterMap_cons, List.filterMap_nil, List.getElem?_cons_zero, List.getElem?_cons_succ, Option.map_some]
  refine fl_value (v := _) (by rfl) (exec_mag rfl) ?_
  try simp only [Act.put, List.setIfInBounds_toArray, List.set_cons_succ, List.set_cons_zero]
  refine fl_load (by rfl) rfl inferInstance inferInstance ?_
  try simp only [Act.put, List.setIfInBounds_toArray, List.set_cons_succ, List.set_cons_zero]
  refine fl_value (v := _) (by rfl) (exec_mag rfl) ?_
  try simp only [Act.put, List.setIfInBounds_toArray, List.set_cons_succ, List.set_cons_zero]
  refine fl_load (by rfl) rfl inferInstance inferInstance ?_
  try simp only [Act.put, List.setIfInBounds_toArray, List.set_cons_succ, List.set_cons_zero]
  refine fl_both (by rfl) (by rfl) ?_ ?_
  · refine wp_allocs inferInstance inferInstance fun g8 u5 b8 => ?_
    clear b8
    try simp only [Act.put, List.setIfInBounds_toArray, List.set_cons_succ, List.set_cons_zero]
    simp only [List.cons_append, List.nil_append]
    refine mx_only (by rfl) ?_
    refine wp_enters (f := 29) (args := #[wv a]) (by go_simp) ?_
    refine (HDA.out _).mono ?_
    rintro e w' ⟨v1, x, rfl, ⟨hx1, hx2, hx3⟩, o1, b1⟩
    have R1 := o1.rd
    obtain ⟨u5, rfl⟩ := u5.go b1
    refine ⟨v1, rfl, KW.weak (h := inferInstance) u5, ?_⟩
    clear o1 b1
    try simp only [Act.put, List.setIfInBounds_toArray, List.set_cons_succ, List.set_cons_zero]
    refine mx_only (by rfl) ?_
    refine wp_enters (f := 29) (args := #[wv b]) (by go_simp) ?_
    refine (HDB.out _).mono ?_
    rintro e w' ⟨v2, y, rfl, ⟨hy1, hy2, hy3⟩, o2, b2⟩
    have R1 := R1.later b2 (Nat.le_refl _)
    have R2 := o2.rd
    obtain ⟨u5, rfl⟩ := u5.go b2
    refine ⟨v2, rfl, KW.weak (h := inferInstance) u5, ?_⟩
    clear o2 b2
    try simp only [Act.put, List.setIfInBounds_toArray, List.set_cons_succ, List.set_cons_zero]
    refine mx_only (by rfl) ?_
    refine wp_enters (f := 34) (args := #[v1, v2]) (by go_simp) ?_
    refine (times_any v1 v2 x y _ R1 R2 hx1 hy1 (by omega) (by omega)).mono ?_
    rintro e w' ⟨v3, z, rfl, ⟨hz1, hz2, hz3⟩, o3, b3⟩
    have R3 := o3.rd
    obtain ⟨u5, rfl⟩ := u5.go b3
    refine ⟨v3, rfl, KW.weak (h := inferInstance) u5, ?_⟩
    clear o3 b3
    try simp only [Act.put, List.setIfInBounds_toArray, List.set_cons_succ, List.set_cons_zero]
    refine mx_only (by rfl) ?_
    refine wp_enters (f := 30) (args := #[v3]) (by go_simp) ?_
    have FW := refWide_any v3 z _ R3 hz1 (by omega)
    rw [hz2, hx2, hy2, hx0, hL, hBt] at FW
    refine FW.mono ?_
    rintro e w' ⟨rfl, b4⟩
    obtain ⟨u5, rfl⟩ := u5.go b4
    refine ⟨_, rfl, KW.weak (h := inferInstance) u5, ?_⟩
    clear b4 FW R3 hz1 hz2 hz3 hx1 hx2 hx3 hy1 hy2 hy3
    try simp only [Act.put, List.setIfInBounds_toArray, List.set_cons_succ, List.set_cons_zero]
    refine mixg_value (v := .tuple #[wv q, .bool true]) (by rfl) (by intro w; go_simp) ?_
    try simp only [Act.put, List.setIfInBounds_toArray, List.set_cons_succ, List.set_cons_zero]
    refine mixg_value (v := wv q) (by rfl) (by intro w; go_simp) ?_
    try simp only [Act.put, List.setIfInBounds_toArray, List.set_cons_succ, List.set_cons_zero]
    refine mixg_value (v := .bool true) (by rfl) (by intro w; go_simp) ?_
    try simp only [Act.put, List.setIfInBounds_toArray, List.set_cons_succ, List.set_cons_zero]
    refine mixg_store (by rfl) rfl rfl inferInstance inferInstance inferInstance inferInstance fun u5 => ?_
    refine mixg_then (v := .bool true) (by rfl) (by go_simp) (KW.weak (h := inferInstance) u5) ?_
    try simp only [Act.put, List.setIfInBounds_toArray, List.set_cons_succ, List.set_cons_zero]
    refine mix_nil ?_
    cases s <;> cases t
    all_goals (
      first | (obtain rfl : r = true := hr) | (obtain rfl : r = false := hr)
      go_wp2_with (first
        | ((with_reducible apply ls_load); exact rfl; infer_instance; infer_instance)
        | ((with_reducible apply ls_store); exact rfl; exact rfl; infer_instance; infer_instance; infer_instance; intro _)
        | ((with_reducible apply ls_I); exact rfl; exact rfl)
        | (go_at_call 7; (with_reducible refine (HF.out _).mono ?_); rintro e w' ⟨rfl, hb'⟩; obtain ⟨_, rfl⟩ := KW.go _ hb'; clear hb'))
      exact bd_cell_tmp Tryd.results13 rfl rfl inferInstance inferInstance ⟨rfl, KW.below _⟩)
  · refine wp_enters (f := 29) (args := #[wv a]) (by go_simp) ?_
    refine (HDA.out _).mono ?_
    rintro e w' ⟨v1, x, rfl, ⟨hx1, hx2, hx3⟩, o1, b1⟩
    have R1 := o1.rd
    obtain ⟨u5, rfl⟩ := u5.go b1
    refine ⟨v1, rfl, KW.weak (h := inferInstance) u5, ?_⟩
    clear o1 b1
    try simp only [Act.put, List.setIfInBounds_toArray, List.set_cons_succ, List.set_cons_zero]
    refine fl_both (by rfl) (by rfl) ?_ ?_
    · refine wp_allocs inferInstance inferInstance fun g8 u5 b8 => ?_
      have R1 := R1.later b8 (Nat.le_refl _)
      clear b8
      try simp only [Act.put, List.setIfInBounds_toArray, List.set_cons_succ, List.set_cons_zero]
      simp only [List.cons_append, List.nil_append]
      refine mx_only (by rfl) ?_
      refine wp_enters (f := 29) (args := #[wv b]) (by go_simp) ?_
      refine (HDB.out _).mono ?_
      rintro e w' ⟨v2, y, rfl, ⟨hy1, hy2, hy3⟩, o2, b2⟩
      have R1 := R1.later b2 (Nat.le_refl _)
      have R2 := o2.rd
      obtain ⟨u5, rfl⟩ := u5.go b2
      refine ⟨v2, rfl, KW.weak (h := inferInstance) u5, ?_⟩
      clear o2 b2
      try simp only [Act.put, List.setIfInBounds_toArray, List.set_cons_succ, List.set_cons_zero]
      refine mx_only (by rfl) ?_
      refine wp_enters (f := 34) (args := #[v1, v2]) (by go_simp) ?_
      refine (times_any v1 v2 x y _ R1 R2 hx1 hy1 (by omega) (by omega)).mono ?_
      rintro e w' ⟨v3, z, rfl, ⟨hz1, hz2, hz3⟩, o3, b3⟩
      have R3 := o3.rd
      obtain ⟨u5, rfl⟩ := u5.go b3
      refine ⟨v3, rfl, KW.weak (h := inferInstance) u5, ?_⟩
      clear o3 b3
      try simp only [Act.put, List.setIfInBounds_toArray, List.set_cons_succ, List.set_cons_zero]
      refine mx_only (by rfl) ?_
      refine wp_enters (f := 30) (args := #[v3]) (by go_simp) ?_
      have FW := refWide_any v3 z _ R3 hz1 (by omega)
      rw [hz2, hx2, hy2, hx0, hL, hBt] at FW
      refine FW.mono ?_
      rintro e w' ⟨rfl, b4⟩
      obtain ⟨u5, rfl⟩ := u5.go b4
      refine ⟨_, rfl, KW.weak (h := inferInstance) u5, ?_⟩
      clear b4 FW R3 hz1 hz2 hz3 hx1 hx2 hx3 hy1 hy2 hy3
      try simp only [Act.put, List.setIfInBounds_toArray, List.set_cons_succ, List.set_cons_zero]
      refine mixg_value (v := .tuple #[wv q, .bool true]) (by rfl) (by intro w; go_simp) ?_
      try simp only [Act.put, List.setIfInBounds_toArray, List.set_cons_succ, List.set_cons_zero]
      refine mixg_value (v := wv q) (by rfl) (by intro w; go_simp) ?_
      try simp only [Act.put, List.setIfInBounds_toArray, List.set_cons_succ, List.set_cons_zero]
      refine mixg_value (v := .bool true) (by rfl) (by intro w; go_simp) ?_
      try simp only [Act.put, List.setIfInBounds_toArray, List.set_cons_succ, List.set_cons_zero]
      refine mixg_store (by rfl) rfl rfl inferInstance inferInstance inferInstance inferInstance fun u5 => ?_
      refine mixg_then (v := .bool true) (by rfl) (by go_simp) (KW.weak (h := inferInstance) u5) ?_
      try simp only [Act.put, List.setIfInBounds_toArray, List.set_cons_succ, List.set_cons_zero]
      refine mix_nil ?_
      cases s <;> cases t
      all_goals (
        first | (obtain rfl : r = true := hr) | (obtain rfl : r = false := hr)
        go_wp2_with (first
          | ((with_reducible apply ls_load); exact rfl; infer_instance; infer_instance)
          | ((with_reducible apply ls_store); exact rfl; exact rfl; infer_instance; infer_instance; infer_instance; intro _)
          | ((with_reducible apply ls_I); exact rfl; exact rfl)
          | (go_at_call 7; (with_reducible refine (HF.out _).mono ?_); rintro e w' ⟨rfl, hb'⟩; obtain ⟨_, rfl⟩ := KW.go _ hb'; clear hb'))
        exact bd_cell_tmp Tryd.results13 rfl rfl inferInstance inferInstance ⟨rfl, KW.below _⟩)
    · refine wp_enters (f := 29) (args := #[wv b]) (by go_simp) ?_
      refine (HDB.out _).mono ?_
      rintro e w' ⟨v2, y, rfl, ⟨hy1, hy2, hy3⟩, o2, b2⟩
      have R1 := R1.later b2 (Nat.le_refl _)
      have R2 := o2.rd
      obtain ⟨u5, rfl⟩ := u5.go b2
      refine ⟨v2, rfl, KW.weak (h := inferInstance) u5, ?_⟩
      clear o2 b2
      try simp only [Act.put, List.setIfInBounds_toArray, List.set_cons_succ, List.set_cons_zero]
      refine fl_both (by rfl) (by rfl) ?_ ?_
      · refine wp_allocs inferInstance inferInstance fun g8 u5 b8 => ?_
        have R1 := R1.later b8 (Nat.le_refl _)
        have R2 := R2.later b8 (Nat.le_refl _)
        clear b8
        try simp only [Act.put, List.setIfInBounds_toArray, List.set_cons_succ, List.set_cons_zero]
        simp only [List.cons_append, List.nil_append]
        refine mx_only (by rfl) ?_
        refine wp_enters (f := 34) (args := #[v1, v2]) (by go_simp) ?_
        refine (times_any v1 v2 x y _ R1 R2 hx1 hy1 (by omega) (by omega)).mono ?_
        rintro e w' ⟨v3, z, rfl, ⟨hz1, hz2, hz3⟩, o3, b3⟩
        have R3 := o3.rd
        obtain ⟨u5, rfl⟩ := u5.go b3
        refine ⟨v3, rfl, KW.weak (h := inferInstance) u5, ?_⟩
        clear o3 b3
        try simp only [Act.put, List.setIfInBounds_toArray, List.set_cons_succ, List.set_cons_zero]
        refine mx_only (by rfl) ?_
        refine wp_enters (f := 30) (args := #[v3]) (by go_simp) ?_
        have FW := refWide_any v3 z _ R3 hz1 (by omega)
        rw [hz2, hx2, hy2, hx0, hL, hBt] at FW
        refine FW.mono ?_
        rintro e w' ⟨rfl, b4⟩
        obtain ⟨u5, rfl⟩ := u5.go b4
        refine ⟨_, rfl, KW.weak (h := inferInstance) u5, ?_⟩
        clear b4 FW R3 hz1 hz2 hz3 hx1 hx2 hx3 hy1 hy2 hy3
        try simp only [Act.put, List.setIfInBounds_toArray, List.set_cons_succ, List.set_cons_zero]
        refine mixg_value (v := .tuple #[wv q, .bool true]) (by rfl) (by intro w; go_simp) ?_
        try simp only [Act.put, List.setIfInBounds_toArray, List.set_cons_succ, List.set_cons_zero]
        refine mixg_value (v := wv q) (by rfl) (by intro w; go_simp) ?_
        try simp only [Act.put, List.setIfInBounds_toArray, List.set_cons_succ, List.set_cons_zero]
        refine mixg_value (v := .bool true) (by rfl) (by intro w; go_simp) ?_
        try simp only [Act.put, List.setIfInBounds_toArray, List.set_cons_succ, List.set_cons_zero]
        refine mixg_store (by rfl) rfl rfl inferInstance inferInstance inferInstance inferInstance fun u5 => ?_
        refine mixg_then (v := .bool true) (by rfl) (by go_simp) (KW.weak (h := inferInstance) u5) ?_
        try simp only [Act.put, List.setIfInBounds_toArray, List.set_cons_succ, List.set_cons_zero]
        refine mix_nil ?_
        cases s <;> cases t
        all_goals (
          first | (obtain rfl : r = true := hr) | (obtain rfl : r = false := hr)
          go_wp2_with (first
            | ((with_reducible apply ls_load); exact rfl; infer_instance; infer_instance)
            | ((with_reducible apply ls_store); exact rfl; exact rfl; infer_instance; infer_instance; infer_instance; intro _)
            | ((with_reducible apply ls_I); exact rfl; exact rfl)
            | (go_at_call 7; (with_reducible refine (HF.out _).mono ?_); rintro e w' ⟨rfl, hb'⟩; obtain ⟨_, rfl⟩ := KW.go _ hb'; clear hb'))
          exact bd_cell_tmp Tryd.results13 rfl rfl inferInstance inferInstance ⟨rfl, KW.below _⟩)
      · refine wp_enters (f := 34) (args := #[v1, v2]) (by go_simp) ?_
        refine (times_any v1 v2 x y _ R1 R2 hx1 hy1 (by omega) (by omega)).mono ?_
        rintro e w' ⟨v3, z, rfl, ⟨hz1, hz2, hz3⟩, o3, b3⟩
        have R3 := o3.rd
        obtain ⟨u5, rfl⟩ := u5.go b3
        refine ⟨v3, rfl, KW.weak (h := inferInstance) u5, ?_⟩
        clear o3 b3
        try simp only [Act.put, List.setIfInBounds_toArray, List.set_cons_succ, List.set_cons_zero]
        refine fl_both (by rfl) (by rfl) ?_ ?_
        · refine wp_allocs inferInstance inferInstance fun g8 u5 b8 => ?_
          have R3 := R3.later b8 (Nat.le_refl _)
          clear b8
          try simp only [Act.put, List.setIfInBounds_toArray, List.set_cons_succ, List.set_cons_zero]
          simp only [List.cons_append, List.nil_append]
          refine mx_only (by rfl) ?_
          refine wp_enters (f := 30) (args := #[v3]) (by go_simp) ?_
          have FW := refWide_any v3 z _ R3 hz1 (by omega)
          rw [hz2, hx2, hy2, hx0, hL, hBt] at FW
          refine FW.mono ?_
          rintro e w' ⟨rfl, b4⟩
          obtain ⟨u5, rfl⟩ := u5.go b4
          refine ⟨_, rfl, KW.weak (h := inferInstance) u5, ?_⟩
          clear b4 FW R3 hz1 hz2 hz3 hx1 hx2 hx3 hy1 hy2 hy3
          try simp only [Act.put, List.setIfInBounds_toArray, List.set_cons_succ, List.set_cons_zero]
          refine mixg_value (v := .tuple #[wv q, .bool true]) (by rfl) (by intro w; go_simp) ?_
          try simp only [Act.put, List.setIfInBounds_toArray, List.set_cons_succ, List.set_cons_zero]
          refine mixg_value (v := wv q) (by rfl) (by intro w; go_simp) ?_
          try simp only [Act.put, List.setIfInBounds_toArray, List.set_cons_succ, List.set_cons_zero]
          refine mixg_value (v := .bool true) (by rfl) (by intro w; go_simp) ?_
          try simp only [Act.put, List.setIfInBounds_toArray, List.set_cons_succ, List.set_cons_zero]
          refine mixg_store (by rfl) rfl rfl inferInstance inferInstance inferInstance inferInstance fun u5 => ?_
          refine mixg_then (v := .bool true) (by rfl) (by go_simp) (KW.weak (h := inferInstance) u5) ?_
          try simp only [Act.put, List.setIfInBounds_toArray, List.set_cons_succ, List.set_cons_zero]
          refine mix_nil ?_
          cases s <;> cases t
          all_goals (
            first | (obtain rfl : r = true := hr) | (obtain rfl : r = false := hr)
            go_wp2_with (first
              | ((with_reducible apply ls_load); exact rfl; infer_instance; infer_instance)
              | ((with_reducible apply ls_store); exact rfl; exact rfl; infer_instance; infer_instance; infer_instance; intro _)
              | ((with_reducible apply ls_I); exact rfl; exact rfl)
              | (go_at_call 7; (with_reducible refine (HF.out _).mono ?_); rintro e w' ⟨rfl, hb'⟩; obtain ⟨_, rfl⟩ := KW.go _ hb'; clear hb'))
            exact bd_cell_tmp Tryd.results13 rfl rfl inferInstance inferInstance ⟨rfl, KW.below _⟩)
        · refine wp_enters (f := 30) (args := #[v3]) (by go_simp) ?_
          have FW := refWide_any v3 z _ R3 hz1 (by omega)
          rw [hz2, hx2, hy2, hx0, hL, hBt] at FW
          refine FW.mono ?_
          rintro e w' ⟨rfl, b4⟩
          obtain ⟨u5, rfl⟩ := u5.go b4
          refine ⟨_, rfl, KW.weak (h := inferInstance) u5, ?_⟩
          clear b4 FW R3 hz1 hz2 hz3 hx1 hx2 hx3 hy1 hy2 hy3
          try simp only [Act.put, List.setIfInBounds_toArray, List.set_cons_succ, List.set_cons_zero]
          refine fl_value (v := .tuple #[wv q, .bool true]) (by rfl) (by intro w; go_simp) ?_
          try simp only [Act.put, List.setIfInBounds_toArray, List.set_cons_succ, List.set_cons_zero]
          refine fl_value (v := wv q) (by rfl) (by intro w; go_simp) ?_
          try simp only [Act.put, List.setIfInBounds_toArray, List.set_cons_succ, List.set_cons_zero]
          refine fl_value (v := .bool true) (by rfl) (by intro w; go_simp) ?_
          try simp only [Act.put, List.setIfInBounds_toArray, List.set_cons_succ, List.set_cons_zero]
          refine fl_nil (by rfl) ?_
          refine wp_allocs inferInstance inferInstance fun g8 u5 b8 => ?_
          clear b8
          try simp only [Act.put, List.setIfInBounds_toArray, List.set_cons_succ, List.set_cons_zero]
          refine mixg_store (by rfl) rfl rfl inferInstance inferInstance inferInstance inferInstance fun u5 => ?_
          refine mixg_then (v := .bool true) (by rfl) (by go_simp) (KW.weak (h := inferInstance) u5) ?_
          try simp only [Act.put, List.setIfInBounds_toArray, List.set_cons_succ, List.set_cons_zero]
          refine mix_nil ?_
          cases s <;> cases t
          all_goals (
            first | (obtain rfl : r = true := hr) | (obtain rfl : r = false := hr)
            go_wp2_with (first
              | ((with_reducible apply ls_load); exact rfl; infer_instance; infer_instance)
              | ((with_reducible apply ls_store); exact rfl; exact rfl; infer_instance; infer_instance; infer_instance; intro _)
              | ((with_reducible apply ls_I); exact rfl; exact rfl)
              | (go_at_call 7; (with_reducible refine (HF.out _).mono ?_); rintro e w' ⟨rfl, hb'⟩; obtain ⟨_, rfl⟩ := KW.go _ hb'; clear hb'))
            exact bd_cell_tmp Tryd.results13 rfl rfl inferInstance inferInstance ⟨rfl, KW.below _⟩)
set_option maxRecDepth 100000 in
set_option maxHeartbeats 12800000 in
theorem rmul_big (s t : Bool) (a b : Nat) (ha : Hid (a < M)) (hb : Hid (b < M)) (hf : ¬ a * b < M) (w : World) : Calls Tryd.prog 13 #[iv s a, iv t b] w (Ret (fv (sg s a * sg t b)) w) := by
  have HDA := Lib.hid (fun w => digits32_any a ha w)
  have HDB := Lib.hid (fun w => digits32_any b hb w)
  rw [← sg_mul, fv_big (by rw [sg_abs]; exact hf)]
  have hBt : fitB (a * b) = false := decide_eq_false hf
  obtain ⟨q, hL⟩ : ∃ q, low (a * b) = q := ⟨_, rfl⟩
  clear hf
  refine enter fun u => ?_
  go_enter Tryd.func13, Tryd.ntmps13
  go_wp2_with (first
    | ((with_reducible apply list_box); exact rfl; intro _ _)
    | ((with_reducible apply ls_alloc); infer_instance; intro _ _))
  try simp only [Act.put, List.setIfInBounds_toArray, List.set_cons_succ, List.set_cons_zero]
  refine region_float [(true, 0), (true, 1), (true, 3), (true, 4), (false, 2), (false, 5), (false, 6), (false, 7), (true, 8), (true, 9), (true, 10)] 11 [(false, 12), (false, 13)] _ _ (Sub.both (h := Sub.both (h := Sub.both (h := Sub.nil)))) (by kernel_rfl) rfl (by kernel_rfl) (fun _ _ _ _ _ h => by first | (simp only [Exit.then, bodyPost, defers_put] at h ⊢; exact h) | (simp only [Exit.then, Exit.inBlock, bodyPost, defers_put] at h ⊢; exact h)) ?_
  intro u5 _
  simp only [picks, List.filterMap_cons, List.filterMap_nil, List.getElem?_cons_zero, List.getElem?_cons_succ, Option.map_some]
  refine fl_value (v := _) (by rfl) (exec_mag rfl) ?_
  try simp only [Act.put, List.setIfInBounds_toArray, List.set_cons_succ, List.set_cons_zero]
  refine fl_load (by rfl) rfl inferInstance inferInstance ?_
  try simp only [Act.put, List.setIfInBounds_toArray, List.set_cons_succ, List.set_cons_zero]
  refine fl_value (v := _) (by rfl) (exec_mag rfl) ?_
  try simp only [Act.put, List.setIfInBounds_toArray, List.set_cons_succ, List.set_cons_zero]
  refine fl_load (by rfl) rfl inferInstance inferInstance ?_
  try simp only [Act.put, List.setIfInBounds_toArray, List.set_cons_succ, List.set_cons_zero]
  refine fl_both (by rfl) (by rfl) ?_ ?_
  · refine wp_allocs inferInstance inferInstance fun g8 u5 b8 => ?_
    clear b8
    try simp only [Act.put, List.setIfInBounds_toArray, List.set_cons_succ, List.set_cons_zero]
    simp only [List.cons_append, List.nil_append]
    refine mx_only (by rfl) ?_
    refine wp_enters (f := 29) (args := #[wv a]) (by go_simp) ?_
    refine (HDA.out _).mono ?_
    rintro e w' ⟨v1, x, rfl, ⟨hx1, hx2, hx3⟩, o1, b1⟩
    have R1 := o1.rd
    obtain ⟨u5, rfl⟩ := u5.go b1
    refine ⟨v1, rfl, KW.weak (h := inferInstance) u5, ?_⟩
    clear o1 b1
    try simp only [Act.put, List.setIfInBounds_toArray, List.set_cons_succ, List.set_cons_zero]
    refine mx_only (by rfl) ?_
    refine wp_enters (f := 29) (args := #[wv b]) (by go_simp) ?_
    refine (HDB.out _).mono ?_
    rintro e w' ⟨v2, y, rfl, ⟨hy1, hy2, hy3⟩, o2, b2⟩
    have R1 := R1.later b2 (Nat.le_refl _)
    have R2 := o2.rd
    obtain ⟨u5, rfl⟩ := u5.go b2
    refine ⟨v2, rfl, KW.weak (h := inferInstance) u5, ?_⟩
    clear o2 b2
    try simp only [Act.put, List.setIfInBounds_toArray, List.set_cons_succ, List.set_cons_zero]
    refine mx_only (by rfl) ?_
    refine wp_enters (f := 34) (args := #[v1, v2]) (by go_simp) ?_
    refine (times_any v1 v2 x y _ R1 R2 hx1 hy1 (by omega) (by omega)).mono ?_
    rintro e w' ⟨v3, z, rfl, ⟨hz1, hz2, hz3⟩, o3, b3⟩
    have R3 := o3.rd
    obtain ⟨u5, rfl⟩ := u5.go b3
    refine ⟨v3, rfl, KW.weak (h := inferInstance) u5, ?_⟩
    clear o3 b3
    try simp only [Act.put, List.setIfInBounds_toArray, List.set_cons_succ, List.set_cons_zero]
    refine mx_only (by rfl) ?_
    refine wp_enters (f := 30) (args := #[v3]) (by go_simp) ?_
    have FW := refWide_any v3 z _ R3 hz1 (by omega)
    rw [hz2, hx2, hy2, hL, hBt] at FW
    refine FW.mono ?_
    rintro e w' ⟨rfl, b4⟩
    obtain ⟨u5, rfl⟩ := u5.go b4
    refine ⟨_, rfl, KW.weak (h := inferInstance) u5, ?_⟩
    clear b4 FW R3 hz1 hz2 hz3 hx1 hx2 hx3 hy1 hy2 hy3
    try simp only [Act.put, List.setIfInBounds_toArray, List.set_cons_succ, List.set_cons_zero]
    refine mixg_value (v := .tuple #[wv q, .bool false]) (by rfl) (by intro w; go_simp) ?_
    try simp only [Act.put, List.setIfInBounds_toArray, List.set_cons_succ, List.set_cons_zero]
    refine mixg_value (v := wv q) (by rfl) (by intro w; go_simp) ?_
    try simp only [Act.put, List.setIfInBounds_toArray, List.set_cons_succ, List.set_cons_zero]
    refine mixg_value (v := .bool false) (by rfl) (by intro w; go_simp) ?_
    try simp only [Act.put, List.setIfInBounds_toArray, List.set_cons_succ, List.set_cons_zero]
    refine mixg_store (by rfl) rfl rfl inferInstance inferInstance inferInstance inferInstance fun u5 => ?_
    refine mixg_then (v := .bool false) (by rfl) (by go_simp) (KW.weak (h := inferInstance) u5) ?_
    try simp only [Act.put, List.setIfInBounds_toArray, List.set_cons_succ, List.set_cons_zero]
    refine mix_nil ?_
    go_wp2_with (first
      | ((with_reducible apply ls_load); exact rfl; infer_instance; infer_instance)
      | ((with_reducible apply ls_store); exact rfl; exact rfl; infer_instance; infer_instance; infer_instance; intro _)
      | (with_reducible apply ls_I0))
    exact bd_cell_tmp Tryd.results13 rfl rfl inferInstance inferInstance ⟨rfl, KW.below _⟩
  · refine wp_enters (f := 29) (args := #[wv a]) (by go_simp) ?_
    refine (HDA.out _).mono ?_
    rintro e w' ⟨v1, x, rfl, ⟨hx1, hx2, hx3⟩, o1, b1⟩
    have R1 := o1.rd
    obtain ⟨u5, rfl⟩ := u5.go b1
    refine ⟨v1, rfl, KW.weak (h := inferInstance) u5, ?_⟩
    clear o1 b1
    try simp only [Act.put, List.setIfInBounds_toArray, List.set_cons_succ, List.set_cons_zero]
    refine fl_both (by rfl) (by rfl) ?_ ?_
    · refine wp_allocs inferInstance inferInstance fun g8 u5 b8 => ?_
      have R1 := R1.later b8 (Nat.le_refl _)
      clear b8
      try simp only [Act.put, List.setIfInBounds_toArray, List.set_cons_succ, List.set_cons_zero]
      simp only [List.cons_append, List.nil_append]
      refine mx_only (by rfl) ?_
      refine wp_enters (f := 29) (args := #[wv b]) (by go_simp) ?_
      refine (HDB.out _).mono ?_
      rintro e w' ⟨v2, y, rfl, ⟨hy1, hy2, hy3⟩, o2, b2⟩
      have R1 := R1.later b2 (Nat.le_refl _)
      have R2 := o2.rd
      obtain ⟨u5, rfl⟩ := u5.go b2
      refine ⟨v2, rfl, KW.weak (h := inferInstance) u5, ?_⟩
      clear o2 b2
      try simp only [Act.put, List.setIfInBounds_toArray, List.set_cons_succ, List.set_cons_zero]
      refine mx_only (by rfl) ?_
      refine wp_enters (f := 34) (args := #[v1, v2]) (by go_simp) ?_
      refine (times_any v1 v2 x y _ R1 R2 hx1 hy1 (by omega) (by omega)).mono ?_
      rintro e w' ⟨v3, z, rfl, ⟨hz1, hz2, hz3⟩, o3, b3⟩
      have R3 := o3.rd
      obtain ⟨u5, rfl⟩ := u5.go b3
      refine ⟨v3, rfl, KW.weak (h := inferInstance) u5, ?_⟩
      clear o3 b3
      try simp only [Act.put, List.setIfInBounds_toArray, List.set_cons_succ, List.set_cons_zero]
      refine mx_only (by rfl) ?_
      refine wp_enters (f := 30) (args := #[v3]) (by go_simp) ?_
      have FW := refWide_any v3 z _ R3 hz1 (by omega)
      rw [hz2, hx2, hy2, hL, hBt] at FW
      refine FW.mono ?_
      rintro e w' ⟨rfl, b4⟩
      obtain ⟨u5, rfl⟩ := u5.go b4
      refine ⟨_, rfl, KW.weak (h := inferInstance) u5, ?_⟩
      clear b4 FW R3 hz1 hz2 hz3 hx1 hx2 hx3 hy1 hy2 hy3
      try simp only [Act.put, List.setIfInBounds_toArray, List.set_cons_succ, List.set_cons_zero]
      refine mixg_value (v := .tuple #[wv q, .bool false]) (by rfl) (by intro w; go_simp) ?_
      try simp only [Act.put, List.setIfInBounds_toArray, List.set_cons_succ, List.set_cons_zero]
      refine mixg_value (v := wv q) (by rfl) (by intro w; go_simp) ?_
      try simp only [Act.put, List.setIfInBounds_toArray, List.set_cons_succ, List.set_cons_zero]
      refine mixg_value (v := .bool false) (by rfl) (by intro w; go_simp) ?_
      try simp only [Act.put, List.setIfInBounds_toArray, List.set_cons_succ, List.set_cons_zero]
      refine mixg_store (by rfl) rfl rfl inferInstance inferInstance inferInstance inferInstance fun u5 => ?_
      refine mixg_then (v := .bool false) (by rfl) (by go_simp) (KW.weak (h := inferInstance) u5) ?_
      try simp only [Act.put, List.setIfInBounds_toArray, List.set_cons_succ, List.set_cons_zero]
      refine mix_nil ?_
      go_wp2_with (first
        | ((with_reducible apply ls_load); exact rfl; infer_instance; infer_instance)
        | ((with_reducible apply ls_store); exact rfl; exact rfl; infer_instance; infer_instance; infer_instance; intro _)
        | (with_reducible apply ls_I0))
      exact bd_cell_tmp Tryd.results13 rfl rfl inferInstance inferInstance ⟨rfl, KW.below _⟩
    · refine wp_enters (f := 29) (args := #[wv b]) (by go_simp) ?_
      refine (HDB.out _).mono ?_
      rintro e w' ⟨v2, y, rfl, ⟨hy1, hy2, hy3⟩, o2, b2⟩
      have R1 := R1.later b2 (Nat.le_refl _)
      have R2 := o2.rd
      obtain ⟨u5, rfl⟩ := u5.go b2
      refine ⟨v2, rfl, KW.weak (h := inferInstance) u5, ?_⟩
      clear o2 b2
      try simp only [Act.put, List.setIfInBounds_toArray, List.set_cons_succ, List.set_cons_zero]
      refine fl_both (by rfl) (by rfl) ?_ ?_
      · refine wp_allocs inferInstance inferInstance fun g8 u5 b8 => ?_
        have R1 := R1.later b8 (Nat.le_refl _)
        have R2 := R2.later b8 (Nat.le_refl _)
        clear b8
        try simp only [Act.put, List.setIfInBounds_toArray, List.set_cons_succ, List.set_cons_zero]
        simp only [List.cons_append, List.nil_append]
        refine mx_only (by rfl) ?_
        refine wp_enters (f := 34) (args := #[v1, v2]) (by go_simp) ?_
        refine (times_any v1 v2 x y _ R1 R2 hx1 hy1 (by omega) (by omega)).mono ?_
        rintro e w' ⟨v3, z, rfl, ⟨hz1, hz2, hz3⟩, o3, b3⟩
        have R3 := o3.rd
        obtain ⟨u5, rfl⟩ := u5.go b3
        refine ⟨v3, rfl, KW.weak (h := inferInstance) u5, ?_⟩
        clear o3 b3
        try simp only [Act.put, List.setIfInBounds_toArray, List.set_cons_succ, List.set_cons_zero]
        refine mx_only (by rfl) ?_
        refine wp_enters (f := 30) (args := #[v3]) (by go_simp) ?_
        have FW := refWide_any v3 z _ R3 hz1 (by omega)
        rw [hz2, hx2, hy2, hL, hBt] at FW
        refine FW.mono ?_
        rintro e w' ⟨rfl, b4⟩
        obtain ⟨u5, rfl⟩ := u5.go b4
        refine ⟨_, rfl, KW.weak (h := inferInstance) u5, ?_⟩
        clear b4 FW R3 hz1 hz2 hz3 hx1 hx2 hx3 hy1 hy2 hy3
        try simp only [Act.put, List.setIfInBounds_toArray, List.set_cons_succ, List.set_cons_zero]
        refine mixg_value (v := .tuple #[wv q, .bool false]) (by rfl) (by intro w; go_simp) ?_
        try simp only [Act.put, List.setIfInBounds_toArray, List.set_cons_succ, List.set_cons_zero]
        refine mixg_value (v := wv q) (by rfl) (by intro w; go_simp) ?_
        try simp only [Act.put, List.setIfInBounds_toArray, List.set_cons_succ, List.set_cons_zero]
        refine mixg_value (v := .bool false) (by rfl) (by intro w; go_simp) ?_
        try simp only [Act.put, List.setIfInBounds_toArray, List.set_cons_succ, List.set_cons_zero]
        refine mixg_store (by rfl) rfl rfl inferInstance inferInstance inferInstance inferInstance fun u5 => ?_
        refine mixg_then (v := .bool false) (by rfl) (by go_simp) (KW.weak (h := inferInstance) u5) ?_
        try simp only [Act.put, List.setIfInBounds_toArray, List.set_cons_succ, List.set_cons_zero]
        refine mix_nil ?_
        go_wp2_with (first
          | ((with_reducible apply ls_load); exact rfl; infer_instance; infer_instance)
          | ((with_reducible apply ls_store); exact rfl; exact rfl; infer_instance; infer_instance; infer_instance; intro _)
          | (with_reducible apply ls_I0))
        exact bd_cell_tmp Tryd.results13 rfl rfl inferInstance inferInstance ⟨rfl, KW.below _⟩
      · refine wp_enters (f := 34) (args := #[v1, v2]) (by go_simp) ?_
        refine (times_any v1 v2 x y _ R1 R2 hx1 hy1 (by omega) (by omega)).mono ?_
        rintro e w' ⟨v3, z, rfl, ⟨hz1, hz2, hz3⟩, o3, b3⟩
        have R3 := o3.rd
        obtain ⟨u5, rfl⟩ := u5.go b3
        refine ⟨v3, rfl, KW.weak (h := inferInstance) u5, ?_⟩
        clear o3 b3
        try simp only [Act.put, List.setIfInBounds_toArray, List.set_cons_succ, List.set_cons_zero]
        refine fl_both (by rfl) (by rfl) ?_ ?_
        · refine wp_allocs inferInstance inferInstance fun g8 u5 b8 => ?_
          have R3 := R3.later b8 (Nat.le_refl _)
          clear b8
          try simp only [Act.put, List.setIfInBounds_toArray, List.set_cons_succ, List.set_cons_zero]
          simp only [List.cons_append, List.nil_append]
          refine mx_only (by rfl) ?_
          refine wp_enters (f := 30) (args := #[v3]) (by go_simp) ?_
          have FW := refWide_any v3 z _ R3 hz1 (by omega)
          rw [hz2, hx2, hy2, hL, hBt] at FW
          refine FW.mono ?_
          rintro e w' ⟨rfl, b4⟩
          obtain ⟨u5, rfl⟩ := u5.go b4
          refine ⟨_, rfl, KW.weak (h := inferInstance) u5, ?_⟩
          clear b4 FW R3 hz1 hz2 hz3 hx1 hx2 hx3 hy1 hy2 hy3
          try simp only [Act.put, List.setIfInBounds_toArray, List.set_cons_succ, List.set_cons_zero]
          refine mixg_value (v := .tuple #[wv q, .bool false]) (by rfl) (by intro w; go_simp) ?_
          try simp only [Act.put, List.setIfInBounds_toArray, List.set_cons_succ, List.set_cons_zero]
          refine mixg_value (v := wv q) (by rfl) (by intro w; go_simp) ?_
          try simp only [Act.put, List.setIfInBounds_toArray, List.set_cons_succ, List.set_cons_zero]
          refine mixg_value (v := .bool false) (by rfl) (by intro w; go_simp) ?_
          try simp only [Act.put, List.setIfInBounds_toArray, List.set_cons_succ, List.set_cons_zero]
          refine mixg_store (by rfl) rfl rfl inferInstance inferInstance inferInstance inferInstance fun u5 => ?_
          refine mixg_then (v := .bool false) (by rfl) (by go_simp) (KW.weak (h := inferInstance) u5) ?_
          try simp only [Act.put, List.setIfInBounds_toArray, List.set_cons_succ, List.set_cons_zero]
          refine mix_nil ?_
          go_wp2_with (first
            | ((with_reducible apply ls_load); exact rfl; infer_instance; infer_instance)
            | ((with_reducible apply ls_store); exact rfl; exact rfl; infer_instance; infer_instance; infer_instance; intro _)
            | (with_reducible apply ls_I0))
          exact bd_cell_tmp Tryd.results13 rfl rfl inferInstance inferInstance ⟨rfl, KW.below _⟩
        · refine wp_enters (f := 30) (args := #[v3]) (by go_simp) ?_
          have FW := refWide_any v3 z _ R3 hz1 (by omega)
          rw [hz2, hx2, hy2, hL, hBt] at FW
          refine FW.mono ?_
          rintro e w' ⟨rfl, b4⟩
          obtain ⟨u5, rfl⟩ := u5.go b4
          refine ⟨_, rfl, KW.weak (h := inferInstance) u5, ?_⟩
          clear b4 FW R3 hz1 hz2 hz3 hx1 hx2 hx3 hy1 hy2 hy3
          try simp only [Act.put, List.setIfInBounds_toArray, List.set_cons_succ, List.set_cons_zero]
          refine fl_value (v := .tuple #[wv q, .bool false]) (by rfl) (by intro w; go_simp) ?_
          try simp only [Act.put, List.setIfInBounds_toArray, List.set_cons_succ, List.set_cons_zero]
          refine fl_value (v := wv q) (by rfl) (by intro w; go_simp) ?_
          try simp only [Act.put, List.setIfInBounds_toArray, List.set_cons_succ, List.set_cons_zero]
          refine fl_value (v := .bool false) (by rfl) (by intro w; go_simp) ?_
          try simp only [Act.put, List.setIfInBounds_toArray, List.set_cons_succ, List.set_cons_zero]
          refine fl_nil (by rfl) ?_
          refine wp_allocs inferInstance inferInstance fun g8 u5 b8 => ?_
          clear b8
          try simp only [Act.put, List.setIfInBounds_toArray, List.set_cons_succ, List.set_cons_zero]
          refine mixg_store (by rfl) rfl rfl inferInstance inferInstance inferInstance inferInstance fun u5 => ?_
          refine mixg_then (v := .bool false) (by rfl) (by go_simp) (KW.weak (h := inferInstance) u5) ?_
          try simp only [Act.put, List.setIfInBounds_toArray, List.set_cons_succ, List.set_cons_zero]
          refine mix_nil ?_
          go_wp2_with (first
            | ((with_reducible apply ls_load); exact rfl; infer_instance; infer_instance)
            | ((with_reducible apply ls_store); exact rfl; exact rfl; infer_instance; infer_instance; infer_instance; intro _)
            | (with_reducible apply ls_I0))
          exact bd_cell_tmp Tryd.results13 rfl rfl inferInstance inferInstance ⟨rfl, KW.below _⟩
theorem rmul_any (s t : Bool) (a b : Nat) (ha : Hid (a < M)) (hb : Hid (b < M)) (w : World) : Calls Tryd.prog 13 #[iv s a, iv t b] w (Ret (fv (sg s a * sg t b)) w) := by
  by_cases hf : a * b < M
  · exact rmul_fit s t a b ha hb hf w
  · exact rmul_big s t a b ha hb hf w
end Go.Proofs.YtmmnekcnaohnbaaDoor.SignW
