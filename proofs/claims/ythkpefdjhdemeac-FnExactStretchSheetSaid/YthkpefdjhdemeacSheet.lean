/- SHEETS: when a sheet is valid for a book. spec: l02Sheet, ValidSheet; impl: isSheet, ValidSheet. -/
import Derived.Test.YthkpefdjhdemeacLShot
import Derived.Test.YthkpefdjhdemeacSBook
import Derived.Test.YthkpefdjhdemeacIBook
import Derived.Test.YthkpefdjhdemeacCodeName
namespace Go.Proofs.Ythkpefdjhdemeac
set_option maxRecDepth 100000
open Go.RowKit
set_option linter.unusedVariables false
set_option linter.unusedSimpArgs false
def inS (n : Nat) (s : Int × Int) : Bool := inB s.1 0 ((n : Int) - 1) && inB s.2 1 24
def okS (n : Nat) (L : List (Int × Int)) : Bool := decide (L.length ≤ 80) && L.all (inS n)
theorem okS_iff {n : Nat} {L : List (Int × Int)} : okS n L = true ↔ L.length ≤ 80 ∧ ∀ i, i < L.length → inS n (sAt L i) = true := by
  unfold okS
  rw [Bool.and_eq_true, decide_eq_true_iff, List.all_eq_true]
  refine and_congr_right fun _ => ⟨fun h i hi => h _ (List.mem_of_getElem? (sAt_get hi)), fun h x hx => ?_⟩
  obtain ⟨i, hi⟩ := List.getElem?_of_mem hx
  have hlt := (List.getElem?_eq_some_iff.1 hi).1
  have := h i hlt
  rw [sAt_get hlt] at hi
  rwa [Option.some.inj hi] at this
theorem okS_len {n : Nat} {L : List (Int × Int)} (h : 80 < L.length) : okS n L = false := by
  unfold okS; rw [decide_eq_false (by omega)]; rfl
theorem okS_at {n : Nat} {L : List (Int × Int)} {i : Nat} (hi : i < L.length) (h : inS n (sAt L i) = false) : okS n L = false := by
  cases ho : okS n L with
  | false => rfl
  | true => have := (okS_iff.1 ho).2 i hi; rw [h] at this; cases this
def lt8 (s : Int × Int) : Prop := (-128 ≤ s.1 ∧ s.1 ≤ 127) ∧ -128 ≤ s.2 ∧ s.2 ≤ 127
def ltS (L : List (Int × Int)) : Prop := ∀ s ∈ L, lt8 s
theorem sAt_lt {L : List (Int × Int)} (h : ltS L) (i : Nat) : lt8 (sAt L i) := by
  by_cases hi : i < L.length
  · exact h _ (List.mem_of_getElem? (sAt_get hi))
  · unfold sAt
    rw [List.getD_eq_getElem?_getD, List.getElem?_eq_none (by omega)]
    simp [zeroS, lt8]
theorem inBl (z a b : Int) (w : World) : Calls Try.prog 65 #[.int .i64 z, .int .i64 a, .int .i64 b] w fun e w' => e = .returned (.bool (inB z a b)) ∧ Below w.heap.size w w' :=
  (in_any z a b w).mono fun e w' ⟨h1, h2⟩ => ⟨h1, h2 ▸ Below.refl _ _⟩
theorem okBl (v : Value) (L : List (Nat → Nat)) (w : World) (h : SlAt eFr w w.heap.size v L) : Calls Try.prog 51 #[v] w fun e w' => e = .returned (.bool (okB L)) ∧ Below w.heap.size w w' :=
  (specOk_any v L w h).mono fun e w' ⟨h1, h2⟩ => ⟨h1, h2 ▸ Below.refl _ _⟩
/-- A valid book and a valid sheet. -/
def okBS (L : List (Nat → Nat)) (S : List (Int × Int)) : Bool := okB L && okS L.length S
set_option maxHeartbeats 1000000 in
theorem specSheet_any (v u : Value) (L : List (Nat → Nat)) (S : List (Int × Int)) (w : World) (hS : ltS S) (h : SlAt eFr w w.heap.size v L) (hs : SlAt eSh w w.heap.size u S) :
    Calls Try.prog 59 #[v, u] w fun e w' => e = .returned (.bool (okBS L S)) ∧ Below w.heap.size w w' := by
  have cO := fun w' (hb : Below w.heap.size w w') => okBl v L w' (h.later hb)
  obtain ⟨A, c, rfl, h1, h2, hA⟩ := h
  obtain ⟨B, d, rfl, h3, h4, hB⟩ := hs
  clear hA
  unfold maxLen at h2 h4
  cases ho : okB L with
  | false =>
    have hv : okBS L S = false := by unfold okBS; rw [ho]; rfl
    rw [ho] at cO
    rw [hv]
    clear ho hv hB
    go_enter Try.func59, Try.ntmps59
    go_wp2_with (go_at_call 51; refine (cO _ (Below.refl _ _)).mono ?_; rintro e w3 ⟨rfl, hb3⟩; clear cO)
    go_ret
    exact ⟨rfl, hb3⟩
  | true =>
    have hv : okBS L S = okS L.length S := by unfold okBS; rw [ho]; rfl
    rw [ho] at cO
    rw [hv]
    have HV := Lib.hid (okB_len ho)
    clear ho hv
    by_cases h80 : 80 < S.length
    · have hk : okS L.length S = false := okS_len h80
      have e1 : decide ((80 : Int) < (S.length : Int)) = true := decide_eq_true (by omega)
      rw [hk]
      clear hk hB
      go_enter Try.func59, Try.ntmps59
      go_wp2_with (go_at_call 51; refine (cO _ (Below.refl _ _)).mono ?_; rintro e w3 ⟨rfl, hb3⟩; clear cO)
      go_ret
      exact ⟨rfl, hb3⟩
    · have e1 : decide ((80 : Int) < (S.length : Int)) = false := decide_eq_false (by omega)
      go_enter Try.func59, Try.ntmps59
      go_wp2_with (go_at_call 51; refine (cO _ (Below.refl _ _)).mono ?_; rintro e w3 ⟨rfl, hb3⟩; clear cO)
      go_loopw [5] (fun i wr => ∃ k : Nat, k ≤ S.length ∧ i = .int .i64 k ∧ (∀ j, j < k → inS L.length (sAt S j) = true) ∧ Below w.heap.size w wr) (fun i _ => S.length - (intOf i).toNat)
      case atStart => exact ⟨0, by omega, rfl, by omega, hb3⟩
      case round =>
        clear hb3
        obtain ⟨k, hk, rfl, he, hb⟩ := hrel
        have HE := Lib.hid he
        clear he
        by_cases hlt : k < S.length
        · obtain ⟨b1, o1, rfl, hb1, r1⟩ := hB (by omega)
          have g1 := range_below (range_part r1 (sAt_get hlt)) hb hb1
          rw [eSh_n] at g1
          have c0 := sh_cell0 g1
          have c1 := sh_cell1 g1
          have hl8 := sAt_lt hS k
          have k0 : IntKind.i64.wrap (L.length - 1) = (L.length : Int) - 1 := IntWalk.i64_in _ (by omega)
          have hI : inS L.length (sAt S k) = (inB (sAt S k).1 0 ((L.length : Int) - 1) && inB (sAt S k).2 1 24) := rfl
          clear hB r1 g1
          generalize hx : (sAt S k).1 = x at *
          generalize hy : (sAt S k).2 = y at *
          have k1 : IntKind.i64.wrap x = x := IntWalk.i64_in _ (by have := hl8.1; omega)
          have k2 : IntKind.i64.wrap y = y := IntWalk.i64_in _ (by have := hl8.2; omega)
          have cA := fun W => in_any x 0 ((L.length : Int) - 1) W
          have cB := fun W => in_any y 1 24 W
          clear hl8 hx hy
          cases hp : inB x 0 ((L.length : Int) - 1) with
          | false =>
            rw [hp] at cA
            have HI := Lib.hid (hI.trans (by rw [hp, Bool.false_and]))
            clear hI hp cB
            go_wp2_with (go_at_call 65; refine (cA _).mono ?_; rintro e w9 ⟨rfl, rfl⟩)
            go_ret
            exact ⟨ret_bool (okS_at hlt HI.out).symm, hb⟩
          | true =>
            rw [hp] at cA
            cases hq : inB y 1 24 with
            | false =>
              rw [hq] at cB
              have HI := Lib.hid (hI.trans (by rw [hp, hq, Bool.and_false]))
              clear hI hp hq
              go_wp2_with ((go_at_call 65; first | (refine (cA _).mono ?_; rintro e w9 ⟨rfl, rfl⟩; clear cA) | (refine (cB _).mono ?_; rintro e w9 ⟨rfl, rfl⟩; clear cB)))
              go_ret
              exact ⟨ret_bool (okS_at hlt HI.out).symm, hb⟩
            | true =>
              rw [hq] at cB
              have HI := Lib.hid (hI.trans (by rw [hp, hq, Bool.and_true]))
              clear hI hp hq
              go_wp2_with ((go_at_call 65; first | (refine (cA _).mono ?_; rintro e w9 ⟨rfl, rfl⟩; clear cA) | (refine (cB _).mono ?_; rintro e w9 ⟨rfl, rfl⟩; clear cB)))
              go_roundw
              case rel =>
                go_light
                refine ⟨k + 1, by omega, by go_num, ?_, hb⟩
                intro j hj
                rcases Nat.lt_succ_iff_lt_or_eq.1 hj with h | rfl
                · exact HE.out j h
                · exact HI.out
              case measure => simp [intOf]; omega
        · go_wp2
          go_ret
          have hkl : k = S.length := by omega
          subst hkl
          exact ⟨ret_bool (okS_iff.2 ⟨by omega, HE.out⟩).symm, hb⟩
theorem specValidSheet_any (v u : Value) (L : List (Nat → Nat)) (S : List (Int × Int)) (w : World) (hS : ltS S) (h : SlAt eFr w w.heap.size v L) (hs : SlAt eSh w w.heap.size u S) :
    Calls Try.prog 28 #[v, u] w fun e w' => e = .returned (.bool (okBS L S)) ∧ Below w.heap.size w w' := by
  have cO := specSheet_any v u L S w hS h hs
  obtain ⟨A, c, rfl⟩ := h.form
  obtain ⟨B, d, rfl⟩ := hs.form
  clear h hs
  go_enter Try.func28, Try.ntmps28
  go_wp2_with (go_at_call 59; refine cO.mono ?_; rintro e w' ⟨rfl, hb⟩)
  go_ret
  exact ⟨rfl, hb⟩
set_option maxHeartbeats 1000000 in
theorem isSheet_any (u : Value) (n : Nat) (S : List (Int × Int)) (w : World) (hn : n ≤ 40) (hS : ltS S) (hs : SlAt eSh w w.heap.size u S) :
    Calls Try.prog 62 #[u, .int .i64 n] w fun e w' => e = .returned (.bool (okS n S)) ∧ Below w.heap.size w w' := by
  obtain ⟨B, d, rfl, h3, h4, hB⟩ := hs
  unfold maxLen at h4
  by_cases h80 : 80 < S.length
  · rw [okS_len h80]
    clear hB
    go_enter Try.func62, Try.ntmps62
    go_wp2
    go_ret
    exact ⟨rfl, Below.refl _ _⟩
  · go_enter Try.func62, Try.ntmps62
    go_wp2
    go_loopw [12] (fun i wr => ∃ k : Nat, k ≤ S.length ∧ i = .int .i64 k ∧ (∀ j, j < k → inS n (sAt S j) = true) ∧ Below w.heap.size w wr) (fun i _ => S.length - (intOf i).toNat)
    case atStart => exact ⟨0, by omega, rfl, by omega, Below.refl _ _⟩
    case round =>
      obtain ⟨k, hk, rfl, he, hb⟩ := hrel
      have HE := Lib.hid he
      clear he
      by_cases hlt : k < S.length
      · obtain ⟨b1, o1, rfl, hb1, r1⟩ := hB (by omega)
        have g1 := range_below (range_part r1 (sAt_get hlt)) hb hb1
        rw [eSh_n] at g1
        have hl8 := sAt_lt hS k
        have hI : inS n (sAt S k) = (inB (sAt S k).1 0 ((n : Int) - 1) && inB (sAt S k).2 1 24) := rfl
        clear hB r1
        obtain ⟨x, y, hxy⟩ : ∃ x y, sAt S k = (x, y) := ⟨_, _, rfl⟩
        rw [hxy] at g1 hl8
        have HI := Lib.hid (hI.trans (by rw [hxy]))
        clear hI hxy
        have hx := hl8.1
        have hy := hl8.2
        dsimp only at hx hy
        have k1 : IntKind.i64.wrap x = x := IntWalk.i64_in _ (by omega)
        have hnb := hb.alloc hb.size (.cells (SC (x, y)) 73)
        clear hl8
        by_cases q1 : x < 0
        · have e1 : decide (x < 0) = true := decide_eq_true q1
          have HF : inS n (sAt S k) = false := HI.out.trans (by rw [show inB (x, y).1 0 ((n : Int) - 1) = false from inB_false.2 (by dsimp only; omega), Bool.false_and])
          have HF' := Lib.hid HF
          clear HF HI
          go_wp2_with (refine wpList_load_el (E := eSh) rfl 73 _ rfl _ _ rfl (x, y) #[.int .i8 x, .int .i8 y] rfl g1 Try.underlying73 rfl (by kernel_rfl) ?_)
          go_ret
          exact ⟨ret_bool (okS_at hlt HF'.out).symm, hnb⟩
        · have e1 : decide (x < 0) = false := decide_eq_false q1
          by_cases q2 : (n : Int) ≤ x
          · have e2 : decide ((n : Int) ≤ x) = true := decide_eq_true q2
            have HF : inS n (sAt S k) = false := HI.out.trans (by rw [show inB (x, y).1 0 ((n : Int) - 1) = false from inB_false.2 (by dsimp only; omega), Bool.false_and])
            have HF' := Lib.hid HF
            clear HF HI
            go_wp2_with (refine wpList_load_el (E := eSh) rfl 73 _ rfl _ _ rfl (x, y) #[.int .i8 x, .int .i8 y] rfl g1 Try.underlying73 rfl (by kernel_rfl) ?_)
            go_ret
            exact ⟨ret_bool (okS_at hlt HF'.out).symm, hnb⟩
          · have e2 : decide ((n : Int) ≤ x) = false := decide_eq_false q2
            by_cases q3 : y < 1
            · have e3 : decide (y < 1) = true := decide_eq_true q3
              have HF : inS n (sAt S k) = false := HI.out.trans (by rw [show inB (x, y).2 1 24 = false from inB_false.2 (by dsimp only; omega), Bool.and_false])
              have HF' := Lib.hid HF
              clear HF HI
              go_wp2_with (refine wpList_load_el (E := eSh) rfl 73 _ rfl _ _ rfl (x, y) #[.int .i8 x, .int .i8 y] rfl g1 Try.underlying73 rfl (by kernel_rfl) ?_)
              go_ret
              exact ⟨ret_bool (okS_at hlt HF'.out).symm, hnb⟩
            · have e3 : decide (y < 1) = false := decide_eq_false q3
              by_cases q4 : 24 < y
              · have e4 : decide (24 < y) = true := decide_eq_true q4
                have HF : inS n (sAt S k) = false := HI.out.trans (by rw [show inB (x, y).2 1 24 = false from inB_false.2 (by dsimp only; omega), Bool.and_false])
                have HF' := Lib.hid HF
                clear HF HI
                go_wp2_with (refine wpList_load_el (E := eSh) rfl 73 _ rfl _ _ rfl (x, y) #[.int .i8 x, .int .i8 y] rfl g1 Try.underlying73 rfl (by kernel_rfl) ?_)
                go_ret
                exact ⟨ret_bool (okS_at hlt HF'.out).symm, hnb⟩
              · have e4 : decide (24 < y) = false := decide_eq_false q4
                have HF : inS n (sAt S k) = true := HI.out.trans (by rw [show inB (x, y).1 0 ((n : Int) - 1) = true from inB_iff.2 (by dsimp only; omega), show inB (x, y).2 1 24 = true from inB_iff.2 (by dsimp only; omega)]; rfl)
                have HF' := Lib.hid HF
                clear HF HI
                go_wp2_with (refine wpList_load_el (E := eSh) rfl 73 _ rfl _ _ rfl (x, y) #[.int .i8 x, .int .i8 y] rfl g1 Try.underlying73 rfl (by kernel_rfl) ?_)
                go_roundw
                case rel =>
                  go_light
                  refine ⟨k + 1, by omega, by go_num, ?_, hnb⟩
                  intro j hj
                  rcases Nat.lt_succ_iff_lt_or_eq.1 hj with h | rfl
                  · exact HE.out j h
                  · exact HF'.out
                case measure => simp [intOf]; omega
      · go_wp2
        go_ret
        have hkl : k = S.length := by omega
        subst hkl
        exact ⟨ret_bool (okS_iff.2 ⟨by omega, HE.out⟩).symm, hb⟩
set_option maxHeartbeats 1000000 in
theorem implValidSheet_any (v u : Value) (L : List (Nat → Nat)) (S : List (Int × Int)) (w : World) (hL : ltL L) (hS : ltS S) (h : SlAt eFr w w.heap.size v L) (hs : SlAt eSh w w.heap.size u S) :
    Calls Try.prog 30 #[v, u] w fun e w' => e = .returned (.bool (okBS L S)) ∧ Below w.heap.size w w' := by
  have cO := implValidBook_any v L w hL h
  have cS := fun (w' : World) (hb : Below w.heap.size w w') (h40 : L.length ≤ 40) => isSheet_any u L.length S w' h40 hS (hs.later hb)
  obtain ⟨A, c, rfl⟩ := h.form
  obtain ⟨B, d, rfl⟩ := hs.form
  clear h hs
  cases ho : okB L with
  | false =>
    have hv : okBS L S = false := by unfold okBS; rw [ho]; rfl
    rw [ho] at cO
    rw [hv]
    clear ho hv cS
    go_enter Try.func30, Try.ntmps30
    go_wp2_with (go_at_call 55; refine cO.mono ?_; rintro e w3 ⟨rfl, hb3⟩)
    go_ret
    exact ⟨rfl, hb3⟩
  | true =>
    have hv : okBS L S = okS L.length S := by unfold okBS; rw [ho]; rfl
    have h40 := okB_len ho
    rw [ho] at cO
    rw [hv]
    clear ho hv
    go_enter Try.func30, Try.ntmps30
    go_wp2_with (first | (go_at_call 55; refine cO.mono ?_; rintro e w3 ⟨rfl, hb3⟩) | (go_at_call 62; refine (cS _ hb3 h40).mono ?_; rintro e w4 ⟨rfl, hb4⟩))
    go_ret
    exact ⟨rfl, grown_below hb3 hb4 hb3.size⟩
end Go.Proofs.Ythkpefdjhdemeac
