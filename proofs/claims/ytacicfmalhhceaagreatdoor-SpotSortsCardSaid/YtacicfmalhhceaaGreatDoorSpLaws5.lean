/-
  The walk of the law SpotSorts.
-/
import Derived.Test.YtacicfmalhhceaaGreatDoorSpSort5
import Derived.Test.YtacicfmalhhceaaGreatDoorSpLaws
namespace Go.Proofs.YtacicfmalhhceaaGreatDoor.SpW
open Go.RowKit
open DigM WideM WideV KM DigW WideW QuotW QuotM DecM FmtW SignM SignW RatW PtW SpM SortM
theorem row_form {w : World} {F : List RS} {v : Value} (h : RowIn RS.enc w F v) : ∃ (p : Option Addr) (c : Nat), v = .slice p F.length c ∧ (F.length ≠ 0 → ∃ b, p = some b) ∧ ∀ b, p = some b → ∀ j u, (flat RS.enc F)[j]? = some u → w.cell? (b.add j) = some u := by
  rcases h with ⟨rfl, rfl⟩ | ⟨b, c, rfl, h⟩
  · exact ⟨none, 0, rfl, fun h => absurd rfl h, fun b h => by cases h⟩
  · exact ⟨some b, c, rfl, fun _ => ⟨b, rfl⟩, fun b' e => by cases e; exact h⟩
theorem rowOut_join {w : World} (u : KW w []) {F : List RS} {v : Value} {w' : World} (h : RowOut u.w F v w') : ∃ u' : KW w [], w' = u'.w ∧ RowIn RS.enc u'.w F v := by
  rcases h with ⟨rfl, rfl, hb⟩ | ⟨g, cap, sp, v5, rfl, rfl⟩
  · obtain ⟨u', hu'⟩ := u.go hb
    exact ⟨u', hu', .inl ⟨rfl, rfl⟩⟩
  · have hin := row_in (cap := cap) rowRS v5 (g := g) (O := F) (sp := sp) inferInstance
    obtain ⟨u', hu'⟩ := u.go v5.below
    rw [hu'] at hin
    exact ⟨u', hu', hin⟩
def SmRel (w : World) (n : Nat) (i : Value) (wr : World) : Prop := ∃ (k : Nat) (u : KW w []), i = .int .i64 (k : Int) ∧ wr = u.w ∧ Hid (k ≤ n)
set_option maxRecDepth 100000 in
set_option maxHeartbeats 6400000 in
theorem same_yes (F : List RS) (hs : ∀ r ∈ F, RS.small r) (hn : F.length ≤ 12) (v1 v2 : Value) (w : World) (h1 : RowIn RS.enc w F v1) (h2 : RowIn RS.enc w F v2) : Calls Tryz.prog 21 #[v1, v2] w (Ret (.bool true) w) := by
  obtain ⟨p1, c1, rfl, g1, k1⟩ := row_form h1
  obtain ⟨p2, c2, rfl, g2, k2⟩ := row_form h2
  obtain ⟨n, hn'⟩ : ∃ n, n = F.length := ⟨_, rfl⟩
  rw [← hn'] at hn g1 g2 ⊢
  replace k1 := Lib.hid k1
  replace k2 := Lib.hid k2
  replace g1 := Lib.hid g1
  replace g2 := Lib.hid g2
  replace hn' := Lib.hid hn'
  replace hn := Lib.hid hn
  clear h1 h2
  have bn : (n != n) = false := by rw [bne_self_eq_false]
  refine enter fun u => ?_
  go_enter Tryz.func21, Tryz.ntmps21
  go_wp2_with (fail)
  go_loopw [5] (SmRel w n) (fun i _ => n - (intOf i).toNat)
  case atStart => exact ⟨0, u, rfl, rfl, Lib.hid (Nat.zero_le _)⟩
  case round =>
    clear u
    obtain ⟨k, u, rfl, rfl, hS⟩ := hrel
    by_cases hk : k < n
    · obtain ⟨q1, rfl⟩ := g1.out (by omega)
      obtain ⟨q2, rfl⟩ := g2.out (by omega)
      have hkl : k < F.length := by rw [← hn'.out]; exact hk
      have b0 : decide (k < n) = true := decide_eq_true hk
      have c0 : IntKind.i64.wrap ((k : Int) + 1) = ((k + 1 : Nat) : Int) := by rw [IntKind.wrap_i64]; have := hn.out; omega
      have R1 := old_get rowRS (k1.out _ rfl) hkl
      have R2 := old_get rowRS (k2.out _ rfl) hkl
      have hq := RS.eql (small_get hs hkl) (small_get hs hkl)
      rw [decide_eq_true rfl] at hq
      have HE : Hid (n - (k + 1) < n - k) := Lib.hid (by omega)
      have HK : Hid (k + 1 ≤ n) := Lib.hid hk
      generalize (F[k]!).enc = x at *
      clear hs hkl hS
      go_wp2_with (fail)
      refine region (by kernel_rfl) (by kernel_rfl) fun _ => ?_
      refine QQ.out ?_
      repeat (first
        | ((with_reducible apply qq_skip); (exact rfl); (try simp only [Act.put, List.setIfInBounds_toArray, List.set_cons_succ, List.set_cons_zero]))
        | ((with_reducible apply qq_load); exact rfl; infer_instance; infer_instance; exact rfl; (try simp only [Act.put, List.setIfInBounds_toArray, List.set_cons_succ, List.set_cons_zero]))
        | ((with_reducible apply qq_cell); exact rfl; infer_instance; infer_instance; exact rfl; (try simp only [Act.put, List.setIfInBounds_toArray, List.set_cons_succ, List.set_cons_zero]))
        | ((with_reducible apply qq_oldr); exact rfl; infer_instance; exact rfl; (try simp only [Act.put, List.setIfInBounds_toArray, List.set_cons_succ, List.set_cons_zero]))
        | ((with_reducible apply qq_value); (intro _; go_simp; try exact rfl); exact rfl; (try simp only [Act.put, List.setIfInBounds_toArray, List.set_cons_succ, List.set_cons_zero]))
        | ((with_reducible apply qq_value); (intro _; go_simp; exact Eq.trans (if_neg (by first | omega | (simp only [ByteArray.size_append]; omega) | (simp [ByteArray.size_append]; omega))) rfl); exact rfl; (try simp only [Act.put, List.setIfInBounds_toArray, List.set_cons_succ, List.set_cons_zero])))
      refine qq_nil ?_
      rintro _ ⟨u7, rfl⟩
      go_wp2_with (fail)
      go_roundw
      case rel => exact ⟨k + 1, u7, rfl, rfl, HK⟩
      case measure => simpa [intOf] using HE.out
    · have b0 : decide (k < n) = false := decide_eq_false hk
      clear hs hS hk
      go_wp2_with (fail)
      go_ret
      exact ⟨rfl, KW.below _⟩
/-- may all of k be? -/
def allF (l : List RS) : Nat → Bool
  | 0 => true
  | k + 1 => allF l k && (l[k]!).ok
theorem allF_iff (l : List RS) : ∀ n, allF l n = true ↔ ∀ j, j < n → (l[j]!).ok = true
  | 0 => ⟨fun _ j h => absurd h (Nat.not_lt_zero _), fun _ => rfl⟩
  | n + 1 => by
    rw [allF, Bool.and_eq_true, allF_iff l n]
    constructor
    · rintro ⟨h1, h2⟩ j hj
      by_cases e : j = n
      · rw [e]; exact h2
      · exact h1 j (by omega)
    · exact fun h => ⟨fun j hj => h j (by omega), h n (by omega)⟩
def LwRel (w : World) (l : List RS) (n : Nat) (a i : Value) (wr : World) : Prop := ∃ (k : Nat) (u : KW w []), a = .bool (allF l k) ∧ i = .int .i64 (k : Int) ∧ wr = u.w ∧ Hid (k ≤ n)
theorem refmay_row {r : RS} (h : r.small) (w : World) : Calls Tryz.prog 12 #[.agg r.enc] w (Ret (.bool r.ok) w) := refMay_any r.s r.n r.t r.m r.d (Lib.hid h.1) (Lib.hid h.2.1) (Lib.hid h.2.2) w
theorem cmp_row {a b : RS} (ha : a.may) (hb : b.may) (w : World) : Calls Tryz.prog 17 #[.agg a.enc, .agg b.enc] w (Ret (.tuple #[.int .i64 (ordS a.sp b.sp), .int .i64 0]) w) :=
  scmpS_yes (Lib.hid ha.1.1) (Lib.hid ha.1.2.1) (Lib.hid ha.1.2.2) (Lib.hid hb.1.1) (Lib.hid hb.1.2.1) (Lib.hid hb.1.2.2) ha.2 hb.2 w
theorem cmp_row_no {a b : RS} (ha : a.small) (hb : b.small) (h : (a.ok && b.ok) = false) (w : World) : Calls Tryz.prog 17 #[.agg a.enc, .agg b.enc] w (Ret (.tuple #[.int .i64 0, .int .i64 1]) w) :=
  scmpS_no (Lib.hid ha.1) (Lib.hid ha.2.1) (Lib.hid ha.2.2) (Lib.hid hb.1) (Lib.hid hb.2.1) (Lib.hid hb.2.2) h w
theorem text_row {r : RS} (h : r.small) (w : World) (ht : Tab w) : Calls Tryz.prog 19 #[.agg r.enc] w (Ret (.string (stxt r.s r.n r.t r.m r.d)) w) := stextS_any r.s r.n r.t r.m r.d (Lib.hid h.1) (Lib.hid h.2.1) (Lib.hid h.2.2) w ht
theorem reftext_row {r : RS} (h : r.small) (w : World) : Calls Tryz.prog 20 #[.agg r.enc] w (Ret (.string (stxt r.s r.n r.t r.m r.d)) w) := refTextS_any r.s r.n r.t r.m r.d (Lib.hid h.1) (Lib.hid h.2.1) (Lib.hid h.2.2) w
set_option maxRecDepth 100000 in
set_option maxHeartbeats 3200000 in
theorem spotSorts_long (p : Option Addr) (n c : Nat) (h : 12 < n) (w : World) (ht : Tab w) : Calls Tryz.prog 4 #[.slice p n c] w (Ret (.bool true) w) := by
  have HT := Lib.hid ht
  have HW := Lib.hid (fun w (ht : Tab w) => awake10_any w ht)
  have b0 : decide (12 < n) = true := decide_eq_true h
  have b1 : decide ((12 : Int) < (n : Int)) = true := decide_eq_true (by omega)
  have b2 : decide ((n : Int) > 12) = true := decide_eq_true (by omega)
  clear ht h
  refine enter fun u => ?_
  go_enter Tryz.func4, Tryz.ntmps4
  go_wp2_with (first
    | ((with_reducible refine ls_skip ?_ ?_); (exact rfl); (try simp only [Act.put, List.setIfInBounds_toArray, List.set_cons_succ, List.set_cons_zero]))
    | (go_at_call 14; (with_reducible refine (HW.out _ (HT.out.later (KW.below _) (Nat.le_refl _))).mono ?_); rintro e w' ⟨rfl, hb'⟩; obtain ⟨_, rfl⟩ := KW.go _ hb'; clear hb'))
  go_ret
  exact ⟨rfl, KW.below _⟩
def SLw (w : World) : Ending → World → Prop := Ret (.bool true) w
set_option maxRecDepth 100000 in
set_option maxHeartbeats 12800000 in
theorem spotSorts_bad (l : List RS) (hl : ∀ r ∈ l, RS.small r) (hn : l.length ≤ 12) (p : Option Addr) (cp : Nat) (w : World) (ht : Tab w) (hc : ∀ b, p = some b → ∀ j u, (flat RS.enc l)[j]? = some u → w.cell? (b.add j) = some u) (hp : l.length ≠ 0 → ∃ b, p = some b)
    (hb : ∃ i, i < l.length ∧ (l[i]!).ok = false) : Calls Tryz.prog 4 #[.slice p l.length cp] w (Ret (.bool true) w) := by
  have HT := Lib.hid ht
  have HW := Lib.hid (fun w (ht : Tab w) => awake10_any w ht)
  have HS : Hid (∀ u : KW w [], Calls Tryz.prog 16 #[.slice p l.length cp] u.w (Ret (.tuple #[.slice none 0 0, .int .i64 1]) u.w)) := Lib.hid (fun u => sort_bad l hl hn _ u.w (by
    obtain ⟨b, rfl⟩ := hp (by obtain ⟨i, hi, _⟩ := hb; omega)
    exact .inr ⟨b, cp, rfl, fun j y hy => cell_later u.below (hc b rfl j y hy)⟩) hb)
  have hall : Hid (allF l l.length = false) := Lib.hid (by
    obtain ⟨i, hi, he⟩ := hb
    cases e : allF l l.length with
    | false => rfl
    | true => rw [(allF_iff l _).1 e i hi] at he; cases he)
  obtain ⟨n, hn'⟩ : ∃ n, n = l.length := ⟨_, rfl⟩
  rw [← hn'] at hn hp hall HS ⊢
  have b12 : decide (12 < n) = false := decide_eq_false (by omega)
  have b12' : decide ((12 : Int) < (n : Int)) = false := decide_eq_false (by omega)
  replace hp := Lib.hid hp
  replace hn' := Lib.hid hn'
  replace hn := Lib.hid hn
  replace hc := Lib.hid hc
  clear hb ht
  refine enter fun u => ?_
  go_enter Tryz.func4, Tryz.ntmps4
  go_wp2_with (go_at_call 16; (with_reducible refine (HS.out u).mono ?_); rintro e w' ⟨rfl, hb'⟩; obtain ⟨u1, rfl⟩ := KW.go _ hb'; clear hb')
  obtain ⟨w1, hw1⟩ : ∃ w1, w1 = u1.w := ⟨_, rfl⟩
  have hw : Hid (Below w.heap.size w w1) := Lib.hid (by rw [hw1]; exact u1.below)
  have hc1 : Hid (∀ b, p = some b → ∀ j u, (flat RS.enc l)[j]? = some u → w1.cell? (b.add j) = some u) := Lib.hid (fun b e j y hy => cell_later hw.out (hc.out b e j y hy))
  have HT1 : Hid (Tab w1) := Lib.hid (HT.out.later hw.out (Nat.le_refl _))
  rw [← hw1]
  clear hw1 u1 u HT hc HS
  have HT := HT1
  clear HT1
  go_loopw [5, 6] (LwRel w1 l n) (fun _ i _ => n - (intOf i).toNat)
  case atStart => exact ⟨0, KW.start w1, rfl, rfl, rfl, Lib.hid (Nat.zero_le _)⟩
  case round =>
    obtain ⟨k, u, rfl, rfl, rfl, hS⟩ := hrel
    by_cases hk : k < n
    · obtain ⟨b, rfl⟩ := hp.out (by omega)
      have hkl : k < l.length := by rw [← hn'.out]; exact hk
      have h0l : 0 < l.length := by omega
      have b0 : decide (k < n) = true := decide_eq_true hk
      have d1 : (0 : Nat) < n := by omega
      have c0 : IntKind.i64.wrap ((k : Int) + 1) = ((k + 1 : Nat) : Int) := by rw [IntKind.wrap_i64]; have := hn.out; omega
      have R1 := old_get rowRS (hc1.out _ rfl) hkl
      have R0 := old_get rowRS (hc1.out _ rfl) h0l
      rw [Nat.zero_mul] at R0
      have R2 : OldR Tryz.prog w1 28 b (l[0]!).enc := by
        have := R0
        rwa [show b.add 0 = b from by simp [Addr.add]] at this
      have HE : Hid (n - (k + 1) < n - k) := Lib.hid (by omega)
      have HK : Hid (k + 1 ≤ n) := Lib.hid hk
      have sx := small_get hl h0l
      have sy := small_get hl hkl
      have MX := fun w => refmay_row sx w
      have MY := fun w => refmay_row sy w
      have hA : Hid (allF l (k + 1) = (allF l k && (l[k]!).ok)) := Lib.hid rfl
      by_cases hok : (l[0]!).ok = true ∧ (l[k]!).ok = true
      · obtain ⟨o1, o2⟩ := hok
        have m1 : (l[0]!).may := ⟨sx, o1⟩
        have m2 : (l[k]!).may := ⟨sy, o2⟩
        have HC := fun w => cmp_row m1 m2 w
        have HR := fun w => refcmp_row m1 m2 w
        have T1 := Lib.hid (fun w (ht : Tab w) => text_row sy w ht)
        have T2 := Lib.hid (fun w => reftext_row sy w)
        have hq := RS.eql sx sy
        rw [ord_same m1 m2] at hq
        rw [o1] at MX
        rw [o2] at MY
        rw [o2, Bool.and_true] at hA
        clear m1 m2 o1 o2 sx sy
        generalize ordS (l[0]!).sp (l[k]!).sp = c at *
        generalize stxt (l[k]!).s (l[k]!).n (l[k]!).t (l[k]!).m (l[k]!).d = tx at *
        generalize (l[0]!).enc = x at *
        generalize (l[k]!).enc = y at *
        obtain ⟨B, hB⟩ : ∃ B, B = allF l k := ⟨_, rfl⟩
        rw [← hB] at hA ⊢
        replace HC := Lib.hid HC
        replace HR := Lib.hid HR
        replace MX := Lib.hid MX
        replace MY := Lib.hid MY
        clear hB hl hkl h0l hS
        cases B
        all_goals (
          go_wp2_with (first
            | ((with_reducible refine ls_skip ?_ ?_); (exact rfl); (try simp only [Act.put, List.setIfInBounds_toArray, List.set_cons_succ, List.set_cons_zero]))
            | ((with_reducible refine ck_load ?_); refine ls_oldr rfl inferInstance ?_)
            | ((with_reducible refine ck_gload ?_); refine lsg_oldr rfl rfl inferInstance ?_)
            | (go_at_call 12; (with_reducible refine (MY.out _).mono ?_); rintro e w' ⟨rfl, hb'⟩; obtain ⟨_, rfl⟩ := KW.go _ hb'; clear hb'))
          refine region (by kernel_rfl) (by kernel_rfl) fun _ => ?_
          refine QQ.out ?_
          repeat (first
            | ((with_reducible apply qq_skip); (exact rfl); (try simp only [Act.put, List.setIfInBounds_toArray, List.set_cons_succ, List.set_cons_zero]))
            | ((with_reducible apply qq_load); exact rfl; infer_instance; infer_instance; exact rfl; (try simp only [Act.put, List.setIfInBounds_toArray, List.set_cons_succ, List.set_cons_zero]))
            | ((with_reducible apply qq_cell); exact rfl; infer_instance; infer_instance; exact rfl; (try simp only [Act.put, List.setIfInBounds_toArray, List.set_cons_succ, List.set_cons_zero]))
            | ((with_reducible apply qq_oldr); exact rfl; infer_instance; exact rfl; (try simp only [Act.put, List.setIfInBounds_toArray, List.set_cons_succ, List.set_cons_zero]))
            | ((with_reducible apply qq_callf (f := 17)); (intro _; go_simp; try exact rfl); (with_reducible exact fun u => HC.out _); exact rfl; (try simp only [Act.put, List.setIfInBounds_toArray, List.set_cons_succ, List.set_cons_zero]))
            | ((with_reducible apply qq_value); (intro _; go_simp; try exact rfl); exact rfl; (try simp only [Act.put, List.setIfInBounds_toArray, List.set_cons_succ, List.set_cons_zero]))
            | ((with_reducible apply qq_value); (intro _; go_simp; exact Eq.trans (if_neg (by first | omega | (simp only [ByteArray.size_append]; omega) | (simp [ByteArray.size_append]; omega))) rfl); exact rfl; (try simp only [Act.put, List.setIfInBounds_toArray, List.set_cons_succ, List.set_cons_zero])))
          refine qq_nil ?_
          rintro _ ⟨u7, rfl⟩
          go_wp2_with (first
            | ((with_reducible refine ls_skip ?_ ?_); (exact rfl); (try simp only [Act.put, List.setIfInBounds_toArray, List.set_cons_succ, List.set_cons_zero]))
            | ((with_reducible refine ck_load ?_); refine ls_oldr rfl inferInstance ?_)
            | ((with_reducible refine ck_gload ?_); refine lsg_oldr rfl rfl inferInstance ?_)
            | (go_at_call 12; (with_reducible refine (MX.out _).mono ?_); rintro e w' ⟨rfl, hb'⟩; obtain ⟨_, rfl⟩ := KW.go _ hb'; clear hb')
            | (go_at_call 12; (with_reducible refine (MY.out _).mono ?_); rintro e w' ⟨rfl, hb'⟩; obtain ⟨_, rfl⟩ := KW.go _ hb'; clear hb'))
          refine region (by kernel_rfl) (by kernel_rfl) fun _ => ?_
          refine QQ.out ?_
          repeat (first
            | ((with_reducible apply qq_skip); (exact rfl); (try simp only [Act.put, List.setIfInBounds_toArray, List.set_cons_succ, List.set_cons_zero]))
            | ((with_reducible apply qq_load); exact rfl; infer_instance; infer_instance; exact rfl; (try simp only [Act.put, List.setIfInBounds_toArray, List.set_cons_succ, List.set_cons_zero]))
            | ((with_reducible apply qq_cell); exact rfl; infer_instance; infer_instance; exact rfl; (try simp only [Act.put, List.setIfInBounds_toArray, List.set_cons_succ, List.set_cons_zero]))
            | ((with_reducible apply qq_oldr); exact rfl; infer_instance; exact rfl; (try simp only [Act.put, List.setIfInBounds_toArray, List.set_cons_succ, List.set_cons_zero]))
            | ((with_reducible apply qq_callf (f := 18)); (intro _; go_simp; try exact rfl); (with_reducible exact fun u => HR.out _); exact rfl; (try simp only [Act.put, List.setIfInBounds_toArray, List.set_cons_succ, List.set_cons_zero]))
            | ((with_reducible apply qq_callf (f := 19)); (intro _; go_simp; try exact rfl); (with_reducible exact fun u => T1.out _ (HT.out.later (KW.below _) (Nat.le_refl _))); exact rfl; (try simp only [Act.put, List.setIfInBounds_toArray, List.set_cons_succ, List.set_cons_zero]))
            | ((with_reducible apply qq_callf (f := 20)); (intro _; go_simp; try exact rfl); (with_reducible exact fun u => T2.out _); exact rfl; (try simp only [Act.put, List.setIfInBounds_toArray, List.set_cons_succ, List.set_cons_zero]))
            | ((with_reducible apply qq_value); (intro _; go_simp; try exact rfl); exact rfl; (try simp only [Act.put, List.setIfInBounds_toArray, List.set_cons_succ, List.set_cons_zero]))
            | ((with_reducible apply qq_value); (intro _; go_simp; exact Eq.trans (if_neg (by first | omega | (simp only [ByteArray.size_append]; omega) | (simp [ByteArray.size_append]; omega))) rfl); exact rfl; (try simp only [Act.put, List.setIfInBounds_toArray, List.set_cons_succ, List.set_cons_zero])))
          refine qq_nil ?_
          rintro _ ⟨u8, rfl⟩
          go_wp2_with (fail)
          go_roundw
          case rel => exact ⟨k + 1, u8, by rw [hA.out], rfl, rfl, HK⟩
          case measure => simpa [intOf] using HE.out)
      · have hno : ((l[0]!).ok && (l[k]!).ok) = false := by
          cases e1 : (l[0]!).ok <;> cases e2 : (l[k]!).ok <;> first | rfl | exact absurd ⟨e1, e2⟩ hok
        have HC := fun w => cmp_row_no sx sy hno w
        obtain ⟨B, hB⟩ : ∃ B, B = allF l k := ⟨_, rfl⟩
        rw [← hB] at hA ⊢
        generalize (l[0]!).ok = o1 at *
        generalize (l[k]!).ok = o2 at *
        generalize (l[0]!).enc = x at *
        generalize (l[k]!).enc = y at *
        replace HC := Lib.hid HC
        replace MX := Lib.hid MX
        replace MY := Lib.hid MY
        clear hB hl hkl h0l sx sy hok hS
        cases o1 <;> cases o2 <;> cases B
        all_goals first | (exfalso; revert hno; decide; done) | skip
        all_goals (
          clear hno
          go_wp2_with (first
            | ((with_reducible refine ls_skip ?_ ?_); (exact rfl); (try simp only [Act.put, List.setIfInBounds_toArray, List.set_cons_succ, List.set_cons_zero]))
            | ((with_reducible refine ck_load ?_); refine ls_oldr rfl inferInstance ?_)
            | ((with_reducible refine ck_gload ?_); refine lsg_oldr rfl rfl inferInstance ?_)
            | (go_at_call 12; (with_reducible refine (MY.out _).mono ?_); rintro e w' ⟨rfl, hb'⟩; obtain ⟨_, rfl⟩ := KW.go _ hb'; clear hb'))
          refine region (by kernel_rfl) (by kernel_rfl) fun _ => ?_
          refine QQ.out ?_
          repeat (first
            | ((with_reducible apply qq_skip); (exact rfl); (try simp only [Act.put, List.setIfInBounds_toArray, List.set_cons_succ, List.set_cons_zero]))
            | ((with_reducible apply qq_load); exact rfl; infer_instance; infer_instance; exact rfl; (try simp only [Act.put, List.setIfInBounds_toArray, List.set_cons_succ, List.set_cons_zero]))
            | ((with_reducible apply qq_cell); exact rfl; infer_instance; infer_instance; exact rfl; (try simp only [Act.put, List.setIfInBounds_toArray, List.set_cons_succ, List.set_cons_zero]))
            | ((with_reducible apply qq_oldr); exact rfl; infer_instance; exact rfl; (try simp only [Act.put, List.setIfInBounds_toArray, List.set_cons_succ, List.set_cons_zero]))
            | ((with_reducible apply qq_callf (f := 17)); (intro _; go_simp; try exact rfl); (with_reducible exact fun u => HC.out _); exact rfl; (try simp only [Act.put, List.setIfInBounds_toArray, List.set_cons_succ, List.set_cons_zero]))
            | ((with_reducible apply qq_value); (intro _; go_simp; try exact rfl); exact rfl; (try simp only [Act.put, List.setIfInBounds_toArray, List.set_cons_succ, List.set_cons_zero]))
            | ((with_reducible apply qq_value); (intro _; go_simp; exact Eq.trans (if_neg (by first | omega | (simp only [ByteArray.size_append]; omega) | (simp [ByteArray.size_append]; omega))) rfl); exact rfl; (try simp only [Act.put, List.setIfInBounds_toArray, List.set_cons_succ, List.set_cons_zero])))
          refine qq_nil ?_
          rintro _ ⟨u7, rfl⟩
          go_wp2_with (first
            | ((with_reducible refine ls_skip ?_ ?_); (exact rfl); (try simp only [Act.put, List.setIfInBounds_toArray, List.set_cons_succ, List.set_cons_zero]))
            | ((with_reducible refine ck_load ?_); refine ls_oldr rfl inferInstance ?_)
            | ((with_reducible refine ck_gload ?_); refine lsg_oldr rfl rfl inferInstance ?_)
            | (go_at_call 12; (with_reducible refine (MX.out _).mono ?_); rintro e w' ⟨rfl, hb'⟩; obtain ⟨_, rfl⟩ := KW.go _ hb'; clear hb')
            | (go_at_call 12; (with_reducible refine (MY.out _).mono ?_); rintro e w' ⟨rfl, hb'⟩; obtain ⟨_, rfl⟩ := KW.go _ hb'; clear hb'))
          go_roundw
          case rel => exact ⟨k + 1, _, (by rw [hA.out]; first | done | rfl), rfl, rfl, HK⟩
          case measure => simpa [intOf] using HE.out)
    · have b0 : decide (k < n) = false := decide_eq_false hk
      obtain rfl : k = n := by have := hS.out; omega
      rw [hall.out]
      clear hS hk hl
      go_wp2_with (first
        | ((with_reducible refine ls_skip ?_ ?_); (exact rfl); (try simp only [Act.put, List.setIfInBounds_toArray, List.set_cons_succ, List.set_cons_zero]))
        | (go_at_call 14; (with_reducible refine (HW.out _ (HT.out.later (KW.below _) (Nat.le_refl _))).mono ?_); rintro e w' ⟨rfl, hb'⟩; obtain ⟨_, rfl⟩ := KW.go _ hb'; clear hb'))
      go_ret
      exact ⟨rfl, hw.out.trans ((KW.below _).mono hw.out.size)⟩
set_option maxRecDepth 100000 in
set_option maxHeartbeats 12800000 in
theorem spotSorts_good (l : List RS) (hm : ∀ r ∈ l, RS.may r) (hn : l.length ≤ 12) (p : Option Addr) (cp : Nat) (w : World) (ht : Tab w) (hc : ∀ b, p = some b → ∀ j u, (flat RS.enc l)[j]? = some u → w.cell? (b.add j) = some u) (hp : l.length ≠ 0 → ∃ b, p = some b)
    (hnil : p = none → cp = 0) : Calls Tryz.prog 4 #[.slice p l.length cp] w (Ret (.bool true) w) := by
  have HT := Lib.hid ht
  have HW := Lib.hid (fun w (ht : Tab w) => awake10_any w ht)
  have hl : ∀ r ∈ l, RS.small r := fun r hr => (hm r hr).1
  have HS : Hid (∀ u : KW w [], Calls Tryz.prog 16 #[.slice p l.length cp] u.w (SortOut u.w (comL (srt RS.lt l)))) := Lib.hid (fun u => by
    cases p with
    | none =>
      have h0 : l = [] := by
        cases l with
        | nil => rfl
        | cons a r => obtain ⟨b, hb⟩ := hp (by simp); cases hb
      subst h0
      rw [hnil rfl]
      exact sort_nil u.w
    | some b => exact sort_some l hm hn b cp u.w (fun j y hy => cell_later u.below (hc b rfl j y hy)))
  have hF : l.foldl (insS RS.lt) [] = comL (srt RS.lt l) := (both totRS hm).symm
  have hFs : ∀ r ∈ comL (srt RS.lt l), RS.small r := fun r hr => hl r ((srt_mem _ l r).1 ((comL_mem _ r).1 hr))
  have hFn : (comL (srt RS.lt l)).length ≤ 12 := by
    have h1 := srt_len RS.lt l
    cases e : srt RS.lt l with
    | nil => simp [comL]
    | cons a r =>
      rw [e, List.length_cons] at h1
      have := comT_len a r
      rw [comL, List.length_cons]
      omega
  have HS2 : Hid (∀ w' : World, Below w.heap.size w w' → Calls Tryz.prog 22 #[.slice p l.length cp] w' (fun e w'' => ∃ v, e = .returned v ∧ RowOut w' (comL (srt RS.lt l)) v w'')) := Lib.hid (fun w' hb => by
    have := refSort_some l hm hn p cp w' (fun b e j y hy => cell_later hb (hc b e j y hy)) hp
    rwa [hF] at this)
  have HQ : Hid (∀ (v1 v2 : Value) (w : World), RowIn RS.enc w (comL (srt RS.lt l)) v1 → RowIn RS.enc w (comL (srt RS.lt l)) v2 → Calls Tryz.prog 21 #[v1, v2] w (Ret (.bool true) w)) := Lib.hid (fun v1 v2 w a b => same_yes _ hFs hFn v1 v2 w a b)
  have hall : Hid (allF l l.length = true) := Lib.hid ((allF_iff l _).2 fun j hj => (mem_get hm hj).2)
  clear hF hFs hFn
  generalize comL (srt RS.lt l) = F at *
  obtain ⟨n, hn'⟩ : ∃ n, n = l.length := ⟨_, rfl⟩
  rw [← hn'] at hn hp hall HS HS2 ⊢
  have b12 : decide (12 < n) = false := decide_eq_false (by omega)
  have b12' : decide ((12 : Int) < (n : Int)) = false := decide_eq_false (by omega)
  replace hp := Lib.hid hp
  replace hn' := Lib.hid hn'
  replace hn := Lib.hid hn
  replace hc := Lib.hid hc
  clear ht hnil hm
  refine enter fun u => ?_
  go_enter Tryz.func4, Tryz.ntmps4
  go_wp2_with (go_at_call 16; (with_reducible refine (HS.out u).mono ?_); rintro e w' ⟨v, rfl, hv⟩; obtain ⟨u1, rfl, hin⟩ := rowOut_join u hv; clear hv)
  obtain ⟨w1, hw1⟩ : ∃ w1, w1 = u1.w := ⟨_, rfl⟩
  have hw : Hid (Below w.heap.size w w1) := Lib.hid (by rw [hw1]; exact u1.below)
  have hc1 : Hid (∀ b, p = some b → ∀ j u, (flat RS.enc l)[j]? = some u → w1.cell? (b.add j) = some u) := Lib.hid (fun b e j y hy => cell_later hw.out (hc.out b e j y hy))
  have HT1 : Hid (Tab w1) := Lib.hid (HT.out.later hw.out (Nat.le_refl _))
  rw [← hw1] at hin ⊢
  replace hin := Lib.hid hin
  clear hw1 u1 u HT hc HS
  have HT := HT1
  clear HT1
  go_loopw [5, 6] (LwRel w1 l n) (fun _ i _ => n - (intOf i).toNat)
  case atStart => exact ⟨0, KW.start w1, rfl, rfl, rfl, Lib.hid (Nat.zero_le _)⟩
  case round =>
    obtain ⟨k, u, rfl, rfl, rfl, hS⟩ := hrel
    by_cases hk : k < n
    · obtain ⟨b, rfl⟩ := hp.out (by omega)
      have hkl : k < l.length := by rw [← hn'.out]; exact hk
      have h0l : 0 < l.length := by omega
      have b0 : decide (k < n) = true := decide_eq_true hk
      have d1 : (0 : Nat) < n := by omega
      have c0 : IntKind.i64.wrap ((k : Int) + 1) = ((k + 1 : Nat) : Int) := by rw [IntKind.wrap_i64]; have := hn.out; omega
      have R1 := old_get rowRS (hc1.out _ rfl) hkl
      have R0 := old_get rowRS (hc1.out _ rfl) h0l
      rw [Nat.zero_mul] at R0
      have R2 : OldR Tryz.prog w1 28 b (l[0]!).enc := by
        have := R0
        rwa [show b.add 0 = b from by simp [Addr.add]] at this
      have HE : Hid (n - (k + 1) < n - k) := Lib.hid (by omega)
      have HK : Hid (k + 1 ≤ n) := Lib.hid hk
      have sx := small_get hl h0l
      have sy := small_get hl hkl
      have MX := fun w => refmay_row sx w
      have MY := fun w => refmay_row sy w
      have hA : Hid (allF l (k + 1) = (allF l k && (l[k]!).ok)) := Lib.hid rfl
      by_cases hok : (l[0]!).ok = true ∧ (l[k]!).ok = true
      · obtain ⟨o1, o2⟩ := hok
        have m1 : (l[0]!).may := ⟨sx, o1⟩
        have m2 : (l[k]!).may := ⟨sy, o2⟩
        have HC := fun w => cmp_row m1 m2 w
        have HR := fun w => refcmp_row m1 m2 w
        have T1 := Lib.hid (fun w (ht : Tab w) => text_row sy w ht)
        have T2 := Lib.hid (fun w => reftext_row sy w)
        have hq := RS.eql sx sy
        rw [ord_same m1 m2] at hq
        rw [o1] at MX
        rw [o2] at MY
        rw [o2, Bool.and_true] at hA
        clear m1 m2 o1 o2 sx sy
        generalize ordS (l[0]!).sp (l[k]!).sp = c at *
        generalize stxt (l[k]!).s (l[k]!).n (l[k]!).t (l[k]!).m (l[k]!).d = tx at *
        generalize (l[0]!).enc = x at *
        generalize (l[k]!).enc = y at *
        obtain ⟨B, hB⟩ : ∃ B, B = allF l k := ⟨_, rfl⟩
        rw [← hB] at hA ⊢
        replace HC := Lib.hid HC
        replace HR := Lib.hid HR
        replace MX := Lib.hid MX
        replace MY := Lib.hid MY
        clear hB hl hkl h0l hS HS2 HQ
        cases B
        all_goals (
          go_wp2_with (first
            | ((with_reducible refine ls_skip ?_ ?_); (exact rfl); (try simp only [Act.put, List.setIfInBounds_toArray, List.set_cons_succ, List.set_cons_zero]))
            | ((with_reducible refine ck_load ?_); refine ls_oldr rfl inferInstance ?_)
            | ((with_reducible refine ck_gload ?_); refine lsg_oldr rfl rfl inferInstance ?_)
            | (go_at_call 12; (with_reducible refine (MY.out _).mono ?_); rintro e w' ⟨rfl, hb'⟩; obtain ⟨_, rfl⟩ := KW.go _ hb'; clear hb'))
          refine region (by kernel_rfl) (by kernel_rfl) fun _ => ?_
          refine QQ.out ?_
          repeat (first
            | ((with_reducible apply qq_skip); (exact rfl); (try simp only [Act.put, List.setIfInBounds_toArray, List.set_cons_succ, List.set_cons_zero]))
            | ((with_reducible apply qq_load); exact rfl; infer_instance; infer_instance; exact rfl; (try simp only [Act.put, List.setIfInBounds_toArray, List.set_cons_succ, List.set_cons_zero]))
            | ((with_reducible apply qq_cell); exact rfl; infer_instance; infer_instance; exact rfl; (try simp only [Act.put, List.setIfInBounds_toArray, List.set_cons_succ, List.set_cons_zero]))
            | ((with_reducible apply qq_oldr); exact rfl; infer_instance; exact rfl; (try simp only [Act.put, List.setIfInBounds_toArray, List.set_cons_succ, List.set_cons_zero]))
            | ((with_reducible apply qq_callf (f := 17)); (intro _; go_simp; try exact rfl); (with_reducible exact fun u => HC.out _); exact rfl; (try simp only [Act.put, List.setIfInBounds_toArray, List.set_cons_succ, List.set_cons_zero]))
            | ((with_reducible apply qq_value); (intro _; go_simp; try exact rfl); exact rfl; (try simp only [Act.put, List.setIfInBounds_toArray, List.set_cons_succ, List.set_cons_zero]))
            | ((with_reducible apply qq_value); (intro _; go_simp; exact Eq.trans (if_neg (by first | omega | (simp only [ByteArray.size_append]; omega) | (simp [ByteArray.size_append]; omega))) rfl); exact rfl; (try simp only [Act.put, List.setIfInBounds_toArray, List.set_cons_succ, List.set_cons_zero])))
          refine qq_nil ?_
          rintro _ ⟨u7, rfl⟩
          go_wp2_with (first
            | ((with_reducible refine ls_skip ?_ ?_); (exact rfl); (try simp only [Act.put, List.setIfInBounds_toArray, List.set_cons_succ, List.set_cons_zero]))
            | ((with_reducible refine ck_load ?_); refine ls_oldr rfl inferInstance ?_)
            | ((with_reducible refine ck_gload ?_); refine lsg_oldr rfl rfl inferInstance ?_)
            | (go_at_call 12; (with_reducible refine (MX.out _).mono ?_); rintro e w' ⟨rfl, hb'⟩; obtain ⟨_, rfl⟩ := KW.go _ hb'; clear hb')
            | (go_at_call 12; (with_reducible refine (MY.out _).mono ?_); rintro e w' ⟨rfl, hb'⟩; obtain ⟨_, rfl⟩ := KW.go _ hb'; clear hb'))
          refine region (by kernel_rfl) (by kernel_rfl) fun _ => ?_
          refine QQ.out ?_
          repeat (first
            | ((with_reducible apply qq_skip); (exact rfl); (try simp only [Act.put, List.setIfInBounds_toArray, List.set_cons_succ, List.set_cons_zero]))
            | ((with_reducible apply qq_load); exact rfl; infer_instance; infer_instance; exact rfl; (try simp only [Act.put, List.setIfInBounds_toArray, List.set_cons_succ, List.set_cons_zero]))
            | ((with_reducible apply qq_cell); exact rfl; infer_instance; infer_instance; exact rfl; (try simp only [Act.put, List.setIfInBounds_toArray, List.set_cons_succ, List.set_cons_zero]))
            | ((with_reducible apply qq_oldr); exact rfl; infer_instance; exact rfl; (try simp only [Act.put, List.setIfInBounds_toArray, List.set_cons_succ, List.set_cons_zero]))
            | ((with_reducible apply qq_callf (f := 18)); (intro _; go_simp; try exact rfl); (with_reducible exact fun u => HR.out _); exact rfl; (try simp only [Act.put, List.setIfInBounds_toArray, List.set_cons_succ, List.set_cons_zero]))
            | ((with_reducible apply qq_callf (f := 19)); (intro _; go_simp; try exact rfl); (with_reducible exact fun u => T1.out _ (HT.out.later (KW.below _) (Nat.le_refl _))); exact rfl; (try simp only [Act.put, List.setIfInBounds_toArray, List.set_cons_succ, List.set_cons_zero]))
            | ((with_reducible apply qq_callf (f := 20)); (intro _; go_simp; try exact rfl); (with_reducible exact fun u => T2.out _); exact rfl; (try simp only [Act.put, List.setIfInBounds_toArray, List.set_cons_succ, List.set_cons_zero]))
            | ((with_reducible apply qq_value); (intro _; go_simp; try exact rfl); exact rfl; (try simp only [Act.put, List.setIfInBounds_toArray, List.set_cons_succ, List.set_cons_zero]))
            | ((with_reducible apply qq_value); (intro _; go_simp; exact Eq.trans (if_neg (by first | omega | (simp only [ByteArray.size_append]; omega) | (simp [ByteArray.size_append]; omega))) rfl); exact rfl; (try simp only [Act.put, List.setIfInBounds_toArray, List.set_cons_succ, List.set_cons_zero])))
          refine qq_nil ?_
          rintro _ ⟨u8, rfl⟩
          go_wp2_with (fail)
          go_roundw
          case rel => exact ⟨k + 1, u8, by rw [hA.out], rfl, rfl, HK⟩
          case measure => simpa [intOf] using HE.out)
      · have hno : ((l[0]!).ok && (l[k]!).ok) = false := by
          cases e1 : (l[0]!).ok <;> cases e2 : (l[k]!).ok <;> first | rfl | exact absurd ⟨e1, e2⟩ hok
        have HC := fun w => cmp_row_no sx sy hno w
        obtain ⟨B, hB⟩ : ∃ B, B = allF l k := ⟨_, rfl⟩
        rw [← hB] at hA ⊢
        generalize (l[0]!).ok = o1 at *
        generalize (l[k]!).ok = o2 at *
        generalize (l[0]!).enc = x at *
        generalize (l[k]!).enc = y at *
        replace HC := Lib.hid HC
        replace MX := Lib.hid MX
        replace MY := Lib.hid MY
        clear hB hl hkl h0l sx sy hok hS HS2 HQ
        cases o1 <;> cases o2 <;> cases B
        all_goals first | (exfalso; revert hno; decide; done) | skip
        all_goals (
          clear hno
          go_wp2_with (first
            | ((with_reducible refine ls_skip ?_ ?_); (exact rfl); (try simp only [Act.put, List.setIfInBounds_toArray, List.set_cons_succ, List.set_cons_zero]))
            | ((with_reducible refine ck_load ?_); refine ls_oldr rfl inferInstance ?_)
            | ((with_reducible refine ck_gload ?_); refine lsg_oldr rfl rfl inferInstance ?_)
            | (go_at_call 12; (with_reducible refine (MY.out _).mono ?_); rintro e w' ⟨rfl, hb'⟩; obtain ⟨_, rfl⟩ := KW.go _ hb'; clear hb'))
          refine region (by kernel_rfl) (by kernel_rfl) fun _ => ?_
          refine QQ.out ?_
          repeat (first
            | ((with_reducible apply qq_skip); (exact rfl); (try simp only [Act.put, List.setIfInBounds_toArray, List.set_cons_succ, List.set_cons_zero]))
            | ((with_reducible apply qq_load); exact rfl; infer_instance; infer_instance; exact rfl; (try simp only [Act.put, List.setIfInBounds_toArray, List.set_cons_succ, List.set_cons_zero]))
            | ((with_reducible apply qq_cell); exact rfl; infer_instance; infer_instance; exact rfl; (try simp only [Act.put, List.setIfInBounds_toArray, List.set_cons_succ, List.set_cons_zero]))
            | ((with_reducible apply qq_oldr); exact rfl; infer_instance; exact rfl; (try simp only [Act.put, List.setIfInBounds_toArray, List.set_cons_succ, List.set_cons_zero]))
            | ((with_reducible apply qq_callf (f := 17)); (intro _; go_simp; try exact rfl); (with_reducible exact fun u => HC.out _); exact rfl; (try simp only [Act.put, List.setIfInBounds_toArray, List.set_cons_succ, List.set_cons_zero]))
            | ((with_reducible apply qq_value); (intro _; go_simp; try exact rfl); exact rfl; (try simp only [Act.put, List.setIfInBounds_toArray, List.set_cons_succ, List.set_cons_zero]))
            | ((with_reducible apply qq_value); (intro _; go_simp; exact Eq.trans (if_neg (by first | omega | (simp only [ByteArray.size_append]; omega) | (simp [ByteArray.size_append]; omega))) rfl); exact rfl; (try simp only [Act.put, List.setIfInBounds_toArray, List.set_cons_succ, List.set_cons_zero])))
          refine qq_nil ?_
          rintro _ ⟨u7, rfl⟩
          go_wp2_with (first
            | ((with_reducible refine ls_skip ?_ ?_); (exact rfl); (try simp only [Act.put, List.setIfInBounds_toArray, List.set_cons_succ, List.set_cons_zero]))
            | ((with_reducible refine ck_load ?_); refine ls_oldr rfl inferInstance ?_)
            | ((with_reducible refine ck_gload ?_); refine lsg_oldr rfl rfl inferInstance ?_)
            | (go_at_call 12; (with_reducible refine (MX.out _).mono ?_); rintro e w' ⟨rfl, hb'⟩; obtain ⟨_, rfl⟩ := KW.go _ hb'; clear hb')
            | (go_at_call 12; (with_reducible refine (MY.out _).mono ?_); rintro e w' ⟨rfl, hb'⟩; obtain ⟨_, rfl⟩ := KW.go _ hb'; clear hb'))
          go_roundw
          case rel => exact ⟨k + 1, _, (by rw [hA.out]; first | done | rfl), rfl, rfl, HK⟩
          case measure => simpa [intOf] using HE.out)
    · have b0 : decide (k < n) = false := decide_eq_false hk
      obtain rfl : k = n := by have := hS.out; omega
      rw [hall.out]
      clear hS hk hl
      go_wp2_with (first
        | (go_at_call 22; (with_reducible refine (HS2.out u.w (hw.out.trans (u.below.mono hw.out.size))).mono ?_); rintro e w' ⟨v2, rfl, hv2⟩; obtain ⟨u2, rfl, hin2⟩ := rowOut_join u hv2; replace hin2 := Lib.hid hin2; clear hv2)
        | (go_at_call 21; (with_reducible refine (HQ.out _ _ _ (hin.out.later (KW.below u2)) hin2.out).mono ?_); rintro e w' ⟨rfl, hb'⟩; obtain ⟨u3, rfl⟩ := KW.go _ hb'; clear hb')
        | (go_at_call 14; (with_reducible refine (HW.out _ (HT.out.later (KW.below _) (Nat.le_refl _))).mono ?_); rintro e w' ⟨rfl, hb'⟩; obtain ⟨u4, rfl⟩ := KW.go _ hb'; clear hb'))
      go_ret
      exact ⟨rfl, hw.out.trans ((KW.below _).mono hw.out.size)⟩
end Go.Proofs.YtacicfmalhhceaaGreatDoor.SpW
