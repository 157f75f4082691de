/-
  Rows of spots: package spot's own sort.
-/
import Derived.Test.YtacicfmalhhceaaGreatDoorSpSort3
namespace Go.Proofs.YtacicfmalhhceaaGreatDoor.SpW
open Go.RowKit
open DigM WideM WideV KM DigW WideW QuotW QuotM DecM FmtW SignM SignW RatW PtW SpM SortM
/-! ### package spot's own sort -/
/-- the value of a row that a call made: nil, or elements of a new block -/
def RowOut (W : World) (l : List RS) (v : Value) (w' : World) : Prop :=
  (v = .slice none 0 0 ∧ l = [] ∧ Below W.heap.size W w') ∨ ∃ (g cap : Nat) (sp : List Value) (u : KW W [⟨g, rowS RS.enc l sp, 28⟩]), v = .slice (some ⟨g, 0, none⟩) l.length cap ∧ w' = u.w
def SortRel (w : World) (n : Nat) (l : List RS) (i : Value) (wr : World) : Prop := ∃ (k : Nat) (u : KW w []), i = .int .i64 (k : Int) ∧ wr = u.w ∧ Hid (k ≤ n ∧ ∀ j, j < k → (l[j]!).ok = true)
theorem may_row {r : RS} (h : r.small) (w : World) : Calls Tryz.prog 11 #[.agg r.enc] w (Ret (.bool r.ok) w) := smay_any r.s r.n r.t r.m r.d (Lib.hid h.1) (Lib.hid h.2.1) (Lib.hid h.2.2) w
theorem all_get {l : List RS} (hs : ∀ r ∈ l, RS.small r) (h : ∀ j, j < l.length → (l[j]!).ok = true) : ∀ r ∈ l, RS.may r := fun r hr => by
  obtain ⟨i, hi, rfl⟩ := List.mem_iff_getElem.1 hr
  exact ⟨hs _ hr, by rw [← getElem!_pos l i hi]; exact h i hi⟩
set_option maxRecDepth 100000 in
set_option maxHeartbeats 6400000 in
theorem sort_bad (l : List RS) (hl : ∀ r ∈ l, RS.small r) (hn : l.length ≤ 12) (v : Value) (w : World) (hv : RowIn RS.enc w l v) (hb : ∃ i, i < l.length ∧ (l[i]!).ok = false) :
    Calls Tryz.prog 16 #[v] w (Ret (.tuple #[.slice none 0 0, .int .i64 1]) w) := by
  obtain ⟨z, hz, hz2⟩ := hb
  rcases hv with ⟨rfl, rfl⟩ | ⟨b, cp, rfl, hc⟩
  · simp at hz
  · obtain ⟨n, hn'⟩ : ∃ n, n = l.length := ⟨_, rfl⟩
    rw [← hn'] at hn hz ⊢
    replace hc := Lib.hid hc
    replace hn' := Lib.hid hn'
    refine enter fun u => ?_
    go_enter Tryz.func16, Tryz.ntmps16
    go_wp2_with (fail)
    go_loopw [9] (SortRel w n l) (fun i _ => n - (intOf i).toNat)
    case atStart => exact ⟨0, u, rfl, rfl, Lib.hid ⟨Nat.zero_le _, fun j h => absurd h (Nat.not_lt_zero _)⟩⟩
    case round =>
      clear u
      obtain ⟨k, u, rfl, rfl, hS⟩ := hrel
      obtain ⟨h1, h2⟩ := hS.out
      have hk : k < n := by
        rcases Nat.lt_or_ge z k with h3 | h3
        · rw [h2 z h3] at hz2; cases hz2
        · omega
      have b0 : decide (k < n) = true := decide_eq_true hk
      have c0 : IntKind.i64.wrap ((k : Int) + 1) = ((k + 1 : Nat) : Int) := by rw [IntKind.wrap_i64]; omega
      have hkl : k < l.length := by rw [← hn'.out]; exact hk
      have HR := old_get rowRS hc.out hkl
      have HM := fun w => may_row (small_get hl hkl) w
      have HE : Hid (n - (k + 1) < n - k) := Lib.hid (by omega)
      have HP : PutP Tryz.prog 28 (spc false 0 false 0 0) 0 (l[k]!).enc (l[k]!).enc := PutP.of (rowRS.cel _) rfl
      have CE := rowRS.cel l[k]!
      cases ho : (l[k]!).ok with
      | false =>
        rw [ho] at HM
        generalize (l[k]!).enc = x at *
        replace HM := Lib.hid HM
        clear hz hz2 h1 h2 hS ho hkl hl hn
        go_wp2_with (first
          | ((with_reducible refine ls_skip ?_ ?_); (exact rfl); (try simp only [Act.put, List.setIfInBounds_toArray, List.set_cons_succ, List.set_cons_zero]))
          | ((with_reducible refine ck_load ?_); refine ls_oldr rfl inferInstance ?_)
          | ((with_reducible refine ck_alloc ?_); refine ls_alloc inferInstance fun _ _ => ?_)
          | ((with_reducible refine ck_load ?_); first | refine ls_load rfl inferInstance inferInstance ?_ | refine ls_cell rfl inferInstance inferInstance ?_)
          | ((with_reducible refine ck_store ?_); refine ls_store rfl rfl inferInstance inferInstance inferInstance fun _ => ?_)
          | (go_at_call 11; (with_reducible refine (HM.out _).mono ?_); rintro e w' ⟨rfl, hb'⟩; obtain ⟨_, rfl⟩ := KW.go _ hb'; clear hb'))
        go_ret2
        exact ⟨rfl, KW.below _⟩
      | true =>
        have hS' : Hid (k + 1 ≤ n ∧ ∀ j, j < k + 1 → (l[j]!).ok = true) := Lib.hid ⟨hk, fun j hj => by
          by_cases e : j = k
          · rw [e]; exact ho
          · exact h2 j (by omega)⟩
        rw [ho] at HM
        generalize (l[k]!).enc = x at *
        replace HM := Lib.hid HM
        clear hz hz2 h1 h2 hS ho hkl hl hn
        go_wp2_with (first
          | ((with_reducible refine ls_skip ?_ ?_); (exact rfl); (try simp only [Act.put, List.setIfInBounds_toArray, List.set_cons_succ, List.set_cons_zero]))
          | ((with_reducible refine ck_load ?_); refine ls_oldr rfl inferInstance ?_)
          | ((with_reducible refine ck_alloc ?_); refine ls_alloc inferInstance fun _ _ => ?_)
          | ((with_reducible refine ck_load ?_); first | refine ls_load rfl inferInstance inferInstance ?_ | refine ls_cell rfl inferInstance inferInstance ?_)
          | ((with_reducible refine ck_store ?_); refine ls_store rfl rfl inferInstance inferInstance inferInstance fun _ => ?_)
          | (go_at_call 11; (with_reducible refine (HM.out _).mono ?_); rintro e w' ⟨rfl, hb'⟩; obtain ⟨_, rfl⟩ := KW.go _ hb'; clear hb'))
        go_roundw
        case rel => exact ⟨k + 1, ex_weak inferInstance rfl hS'⟩
        case measure => simpa [intOf] using HE.out
def ClonedS (l : List RS) (w : World) (e : Ending) (w' : World) : Prop :=
  ∃ (g cap : Nat) (sp : List Value) (u : KW w [⟨g, rowS RS.enc l sp, 28⟩]), e = .returned (.slice (some ⟨g, 0, none⟩) l.length cap) ∧ w' = u.w ∧ (rowS RS.enc l sp).size = cap * 26
/-- sorted, each once, no error -/
def SortOut (w : World) (F : List RS) (e : Ending) (w' : World) : Prop := ∃ v, e = .returned (.tuple #[v, .int .i64 0]) ∧ RowOut w F v w'
set_option maxRecDepth 100000 in
set_option maxHeartbeats 6400000 in
theorem sort_nil (w : World) : Calls Tryz.prog 16 #[.slice none 0 0] w (SortOut w (comL (srt RS.lt []))) := by
  have HC : Hid (∀ w, Calls Tryz.prog 41 #[.slice none 0 0] w (Ret (.slice none 0 0) w)) := Lib.hid (fun w => (clone_any [] _ w (.inl ⟨rfl, rfl⟩) (by simp)).mono fun e w' h => by
    rcases h with ⟨_, h1, h2⟩ | ⟨_, _, _, _, h, _⟩
    · exact ⟨h1, h2⟩
    · exact absurd rfl h)
  have HS := Lib.hid (fun w => sortFunc_nil (.func (.func 43) #[] #[]) w)
  have HK := Lib.hid (fun w => compact_nil w)
  refine enter fun u => ?_
  go_enter Tryz.func16, Tryz.ntmps16
  go_wp2_with (fail)
  go_loopw [9] (SortRel w 0 []) (fun _ _ => 0)
  case atStart => exact ⟨0, u, rfl, rfl, Lib.hid ⟨Nat.le_refl _, fun j h => absurd h (Nat.not_lt_zero _)⟩⟩
  case round =>
    clear u
    obtain ⟨k, u, rfl, rfl, hS⟩ := hrel
    obtain rfl : k = 0 := by have := hS.out.1; omega
    clear hS
    go_wp2_with (first
      | (go_at_call 41; (with_reducible refine (HC.out _).mono ?_); rintro e w' ⟨rfl, hb⟩; obtain ⟨u2, rfl⟩ := KW.go _ hb; clear hb)
      | (go_at_call 42; (with_reducible refine (HS.out _).mono ?_); rintro e w' ⟨rfl, hb⟩; obtain ⟨u3, rfl⟩ := KW.go _ hb; clear hb)
      | (go_at_call 44; (with_reducible refine (HK.out _).mono ?_); rintro e w' ⟨rfl, hb⟩; obtain ⟨u4, rfl⟩ := KW.go _ hb; clear hb))
    go_ret2
    exact ⟨.slice none 0 0, rfl, .inl ⟨rfl, rfl, KW.below _⟩⟩
set_option maxRecDepth 100000 in
set_option maxHeartbeats 6400000 in
theorem sort_some (l : List RS) (hm : ∀ r ∈ l, RS.may r) (hn : l.length ≤ 12) (b : Addr) (cp : Nat) (w : World) (hc : ∀ j u, (flat RS.enc l)[j]? = some u → w.cell? (b.add j) = some u) :
    Calls Tryz.prog 16 #[.slice (some b) l.length cp] w (SortOut w (comL (srt RS.lt l))) := by
  have HC : Hid (∀ u : KW w [], Calls Tryz.prog 41 #[.slice (some b) l.length cp] u.w (ClonedS l u.w)) := Lib.hid (fun u => (clone_any l _ u.w (.inr ⟨b, cp, rfl, fun j y hy => cell_later u.below (hc j y hy)⟩) (by omega)).mono fun e w' h => by
    rcases h with ⟨h, _⟩ | ⟨g, cap, sp, u2, _, h1, h2, h3, _⟩
    · cases h
    · exact ⟨g, cap, sp, u2, h1, h2, h3⟩)
  have HS : Hid (∀ (W : World) (g cap : Nat) (sp : List Value) (u0 : KW W [⟨g, rowS RS.enc l sp, 28⟩]), Calls Tryz.prog 42 #[.slice (some ⟨g, 0, none⟩) l.length cap, .func (.func 43) #[] #[]] u0.w (Sorted W [] g sp (srt RS.lt l))) :=
    Lib.hid (fun W g cap sp u0 => sortFunc_any l hm hn u0)
  have hms : ∀ r ∈ srt RS.lt l, RS.small r := fun r hr => (hm r ((srt_mem _ l r).1 hr)).1
  have HK : Hid (∀ (W : World) (g cap : Nat) (sp : List Value) (u0 : KW W [⟨g, rowS RS.enc (srt RS.lt l) sp, 28⟩]), (rowS RS.enc l sp).size = cap * 26 → Calls Tryz.prog 44 #[.slice (some ⟨g, 0, none⟩) l.length cap] u0.w (Compacted W [] g cap (comL (srt RS.lt l)))) :=
    Lib.hid (fun W g cap sp u0 h => by
      have := compact_any (cap := cap) (srt RS.lt l) hms (by rw [srt_len]; exact hn) (by rw [row_size rowRS.size, srt_len, ← row_size rowRS.size]; exact h) u0
      rwa [srt_len] at this)
  have hok : ∀ j, j < l.length → (l[j]!).ok = true ∧ (l[j]!).small := fun j hj => ⟨(mem_get hm hj).2, (mem_get hm hj).1⟩
  generalize srt RS.lt l = F at *
  obtain ⟨n, hn'⟩ : ∃ n, n = l.length := ⟨_, rfl⟩
  rw [← hn'] at hn HC HS HK hok ⊢
  replace hc := Lib.hid hc
  replace hn' := Lib.hid hn'
  replace hok := Lib.hid hok
  clear hm hms
  refine enter fun u => ?_
  go_enter Tryz.func16, Tryz.ntmps16
  go_wp2_with (fail)
  go_loopw [9] (SortRel w n l) (fun i _ => n - (intOf i).toNat)
  case atStart => exact ⟨0, u, rfl, rfl, Lib.hid ⟨Nat.zero_le _, fun j h => absurd h (Nat.not_lt_zero _)⟩⟩
  case round =>
    clear u
    obtain ⟨k, u, rfl, rfl, hS⟩ := hrel
    obtain ⟨h1, h2⟩ := hS.out
    by_cases hk : k < n
    · have b0 : decide (k < n) = true := decide_eq_true hk
      have c0 : IntKind.i64.wrap ((k : Int) + 1) = ((k + 1 : Nat) : Int) := by rw [IntKind.wrap_i64]; omega
      have hkl : k < l.length := by rw [← hn'.out]; exact hk
      have HR := old_get rowRS hc.out hkl
      have HM := fun w => may_row (hok.out k hk).2 w
      have HE : Hid (n - (k + 1) < n - k) := Lib.hid (by omega)
      have HP : PutP Tryz.prog 28 (spc false 0 false 0 0) 0 (l[k]!).enc (l[k]!).enc := PutP.of (rowRS.cel _) rfl
      have CE := rowRS.cel l[k]!
      have ho := (hok.out k hk).1
      have hS' : Hid (k + 1 ≤ n ∧ ∀ j, j < k + 1 → (l[j]!).ok = true) := Lib.hid ⟨hk, fun j hj => (hok.out j (by omega)).1⟩
      rw [ho] at HM
      generalize (l[k]!).enc = x at *
      replace HM := Lib.hid HM
      clear h1 h2 hS ho hkl hn
      go_wp2_with (first
        | ((with_reducible refine ls_skip ?_ ?_); (exact rfl); (try simp only [Act.put, List.setIfInBounds_toArray, List.set_cons_succ, List.set_cons_zero]))
        | ((with_reducible refine ck_load ?_); refine ls_oldr rfl inferInstance ?_)
        | ((with_reducible refine ck_alloc ?_); refine ls_alloc inferInstance fun _ _ => ?_)
        | ((with_reducible refine ck_load ?_); first | refine ls_load rfl inferInstance inferInstance ?_ | refine ls_cell rfl inferInstance inferInstance ?_)
        | ((with_reducible refine ck_store ?_); refine ls_store rfl rfl inferInstance inferInstance inferInstance fun _ => ?_)
        | (go_at_call 11; (with_reducible refine (HM.out _).mono ?_); rintro e w' ⟨rfl, hb'⟩; obtain ⟨_, rfl⟩ := KW.go _ hb'; clear hb'))
      go_roundw
      case rel => exact ⟨k + 1, ex_weak inferInstance rfl hS'⟩
      case measure => simpa [intOf] using HE.out
    · have b0 : decide (k < n) = false := decide_eq_false hk
      clear h1 h2 hS hk hn
      go_wp2_with (first
        | (go_at_call 41; (with_reducible refine (HC.out u).mono ?_); rintro e w' ⟨g, cap, sp, u2, rfl, rfl, hcap⟩; rw [← hn'.out]; replace hcap := Lib.hid hcap)
        | (go_at_call 42; (with_reducible refine (HS.out _ _ _ _ u2).mono ?_); rintro e w' ⟨u3, rfl, rfl⟩)
        | (go_at_call 44; (with_reducible refine (HK.out _ _ _ _ u3 hcap.out).mono ?_); rintro e w' ⟨sp4, u4, rfl, rfl⟩))
      go_ret2
      obtain ⟨u5, hu5⟩ := u.join u4
      exact ⟨_, rfl, .inr ⟨g, cap, sp4, u5, rfl, hu5⟩⟩
end Go.Proofs.YtacicfmalhhceaaGreatDoor.SpW
