/- DECIMALS: spec's Decimal. -/
import Derived.Test.YtajlkleoincoeacDoorRows
import Derived.Test.YtajlkleoincoeacDoorTxt
import Derived.Test.YtajlkleoincoeacDoorS1
import Derived.Test.YtajlkleoincoeacDoorTake
import Derived.Test.YtajlkleoincoeacDoorAppH
namespace Go.Proofs.YtajlkleoincoeacDoor
set_option maxRecDepth 100000
open Go.RowKit
set_option linter.unusedVariables false
set_option linter.unusedSimpArgs false
/-- A digit. -/
def dg (m : Nat) : UInt8 := UInt8.ofNat (48 + m)
theorem dg_nat {m : Nat} (h : m < 10) : (dg m).toNat = 48 + m := by unfold dg; simp; omega
theorem dcL_small1 {n : Nat} (h : n < 10) : dcL n = [dg n] := dcL_small h
theorem dcL_big1 {n : Nat} (h : ¬ n < 10) : dcL n = dcL (n / 10) ++ [dg (n % 10)] := dcL_big h
theorem conv1 (m : Nat) (hm : m < 10) (g : Nat) (w : World) (hc : w.cell? ⟨g, 0, none⟩ = some (.int .u8 (48 + (m : Int)))) :
    (convert 47 9 (.slice (some ⟨g, 0, none⟩) 1 1)).run Tryd.prog w = .ok (.string (bsOf [dg m])) w := by
  have := run_convert_bytes_back (P := Tryd.prog) w 47 9 5 ⟨g, 0, none⟩ 1 [dg m] Tryd.underlying47 Tryd.underlying5 Tryd.underlying9 (fun j hj => by
    have hj0 : j = 0 := by simpa using hj
    subst hj0
    have := dg_nat hm
    simpa [Addr.add, this] using hc)
  exact this
theorem dec_cell (w : World) (x : Value) (t : TypeId) : (w.alloc (.cells #[x] t)).cell? ⟨w.heap.size, 0, none⟩ = some x := (Row.new w t #[x]).cell 0
set_option maxHeartbeats 1000000 in
theorem decimal_small (n : Nat) (hn : n < 10) (w : World) :
    Calls Tryd.prog 99 #[.int .i64 n] w fun e w' => e = .returned (.string (bsOf (dcL n))) ∧ Below w.heap.size w w' := by
  have hm : (n : Int) % 10 = n := by omega
  have hd : (n : Int) < 10 := by omega
  have k1 : IntKind.i64.wrap (48 + (n : Int)) = 48 + (n : Int) := IntWalk.i64_in _ (by omega)
  have hcv := conv1 n hn w.heap.size _ (dec_cell w (.int .u8 (48 + (n : Int))) 5)
  rw [dcL_small1 hn]
  go_enter Tryd.func99, Tryd.ntmps99
  go_wp2
  go_ret
  exact ⟨rfl, (Below.refl _ _).alloc (Nat.le_refl _) _⟩
theorem str_add (a b : List UInt8) (h : a.length + b.length ≤ 1000000000) (w : World) : (Op.stringOp .add (bsOf a) (bsOf b)).run Tryd.prog w = .ok (.string (bsOf (a ++ b))) w := by
  rw [run_string_add_sum w _ _ (by rw [bsOf_size, bsOf_size]; omega), bsOf_append]
theorem dcL_len (n : Nat) : ∀ k, n < 10 ^ (k + 1) → (dcL n).length ≤ k + 1 := by
  intro k
  induction k generalizing n with
  | zero => intro h; rw [dcL_small (by simpa using h)]; simp
  | succ k ih =>
    intro h
    by_cases h1 : n < 10
    · rw [dcL_small h1]; simp
    · rw [dcL_big h1]
      have := ih (n / 10) (by rw [Nat.pow_succ] at h; omega)
      simp; omega
set_option maxHeartbeats 4000000 in
theorem decimal_any : ∀ (n : Nat), n < 1000000000000000000 → ∀ w : World,
    Calls Tryd.prog 99 #[.int .i64 n] w fun e w' => e = .returned (.string (bsOf (dcL n))) ∧ Below w.heap.size w w' := by
  intro n
  induction n using Nat.strongRecOn with
  | ind n ih =>
    intro hn w
    by_cases hs : n < 10
    · exact decimal_small n hs w
    · have hlen := dcL_len (n / 10) 17 (by omega)
      have hd : ¬ (n : Int) < 10 := by omega
      obtain ⟨m, hm, hm10⟩ : ∃ m : Nat, n % 10 = m ∧ m < 10 := ⟨_, rfl, Nat.mod_lt _ (by decide)⟩
      obtain ⟨q, hq⟩ : ∃ q : Nat, n / 10 = q := ⟨_, rfl⟩
      have cR := fun w => ih q (by omega) (by omega) w
      have hmi : (n : Int) % 10 = (m : Int) := by omega
      have hqi : (n : Int) / 10 = (q : Int) := by omega
      have hqw : IntKind.i64.wrap (q : Int) = (q : Int) := IntWalk.i64_in _ (by omega)
      have htm : (n : Int).tmod 10 = (m : Int) := by rw [Int.tmod_eq_emod_of_nonneg (by omega)]; exact hmi
      have k8 : IntKind.u8.wrap (48 + (m : Int)) = 48 + (m : Int) := by show (48 + (m : Int)) % 256 = _; omega
      have k1 : IntKind.i64.wrap (48 + (m : Int)) = 48 + (m : Int) := IntWalk.i64_in _ (by omega)
      have hcv := fun (g : Nat) (w' : World) => conv1 m hm10 g w'
      rw [hq] at hlen
      have hsa := fun w => str_add (dcL q) [dg m] (by simp; omega) w
      rw [dcL_big1 hs, hq, hm]
      have HC := Lib.hid hcv
      clear ih hcv hm hq
      go_enter Tryd.func99, Tryd.ntmps99
      go_wp2
      refine wp_region_takes (by kernel_rfl) ?_
      refine held_take (i := 0) (v := ?_) rfl (by kernel_rfl) (by kernel_rfl) (by kernel_rfl) (fun _ _ _ h => nomatch h.1) (Or.inl ⟨by rfl, ?_⟩) trivial ?_
      rotate_left
      · intro w hSw; go_simp; (try with_reducible rfl)
      try simp only [Act.put, List.setIfInBounds_toArray, List.set_cons_zero, List.set_cons_succ]
      refine held_take (i := 1) (v := ?_) rfl (by kernel_rfl) (by kernel_rfl) (by kernel_rfl) (fun _ _ _ h => nomatch h.1) (Or.inl ⟨by rfl, ?_⟩) trivial ?_
      rotate_left
      · intro w hSw; go_simp; (try with_reducible rfl)
      try simp only [Act.put, List.setIfInBounds_toArray, List.set_cons_zero, List.set_cons_succ]
      refine held_take (i := 3) (v := ?_) rfl (by kernel_rfl) (by kernel_rfl) (by kernel_rfl) (fun _ _ _ h => nomatch h.1) (Or.inl ⟨by rfl, ?_⟩) trivial ?_
      rotate_left
      · intro w hSw; go_simp; (try with_reducible rfl)
      try simp only [Act.put, List.setIfInBounds_toArray, List.set_cons_zero, List.set_cons_succ]
      refine held_take (i := 4) (v := ?_) rfl (by kernel_rfl) (by kernel_rfl) (by kernel_rfl) (fun _ _ _ h => nomatch h.1) (Or.inl ⟨by rfl, ?_⟩) trivial ?_
      rotate_left
      · intro w hSw; go_simp; (try with_reducible rfl)
      try simp only [Act.put, List.setIfInBounds_toArray, List.set_cons_zero, List.set_cons_succ]
      refine held_take (i := 5) (v := ?_) rfl (by kernel_rfl) (by kernel_rfl) (by kernel_rfl) (fun _ _ _ h => nomatch h.1) (Or.inl ⟨by rfl, ?_⟩) trivial ?_
      rotate_left
      · intro w hSw; go_simp; (try with_reducible rfl)
      try simp only [Act.put, List.setIfInBounds_toArray, List.set_cons_zero, List.set_cons_succ]
      refine held_take (i := 6) (v := ?_) rfl (by kernel_rfl) (by kernel_rfl) (by kernel_rfl) (fun _ _ _ h => nomatch h.1) (Or.inl ⟨by rfl, ?_⟩) trivial ?_
      rotate_left
      · intro w hSw; go_simp; (try with_reducible rfl)
      try simp only [Act.put, List.setIfInBounds_toArray, List.set_cons_zero, List.set_cons_succ]
      refine wpAnyH_ready (rs := [2, 7]) (by kernel_rfl) (by simp) ?_
      refine held_cons rfl (fun K hK => ?_) (held_cons rfl (fun K hK => ?_) AllReadyH.nil)
      · rw [if_pos (by rfl)]
        go_simp
        go_at_call 99
        refine (cR _).mono ?_
        rintro e w1 ⟨rfl, hb1⟩
        refine hK.out _ _ trivial (fun _ => ?_)
        clear hK K
        have hcv := HC.out w1.heap.size _ (dec_cell w1 (.int .u8 (48 + (m : Int))) 5)
        try simp only [Act.put, List.setIfInBounds_toArray, List.set_cons_zero, List.set_cons_succ]
        refine forced [7, 8, 9, 10] (by decide) (by kernel_rfl) ?_
        simp only [List.filterMap_cons, List.filterMap_nil, List.getElem?_toArray, List.getElem?_cons_succ, List.getElem?_cons_zero]
        go_wp2
        rw [normalOnly_normal]
        go_wp2
        go_ret
        exact ⟨rfl, ((below_drewN (Below.refl w.heap.size w) 1).trans hb1).alloc hb1.size _⟩
      · rw [if_pos (by rfl)]
        go_simp
        refine hK.out _ _ trivial (fun _ => ?_)
        clear hK K
        have dc : ((w.alloc (.cells #[.int .u8 (48 + (m : Int))] 5)).drew).cell? ⟨w.heap.size, 0, none⟩ = some (.int .u8 (48 + (m : Int))) := dec_cell w (.int .u8 (48 + (m : Int))) 5
        have hb0 : Below w.heap.size w ((w.alloc (.cells #[.int .u8 (48 + (m : Int))] 5)).drew) := below_drewN ((Below.refl w.heap.size w).alloc (Nat.le_refl _) (.cells #[.int .u8 (48 + (m : Int))] 5)) 1
        try simp only [Act.put, List.setIfInBounds_toArray, List.set_cons_zero, List.set_cons_succ]
        have cR2 := cR ((w.alloc (.cells #[.int .u8 (48 + (m : Int))] 5)).drew)
        generalize (w.alloc (.cells #[.int .u8 (48 + (m : Int))] 5)).drew = w2 at *
        refine wpAnyH_ready (rs := [2, 8]) (by kernel_rfl) (by simp) ?_
        refine held_cons rfl (fun K hK => ?_) (held_cons rfl (fun K hK => ?_) AllReadyH.nil)
        · rw [if_pos (by rfl)]
          go_simp
          go_at_call 99
          refine cR2.mono ?_
          rintro e w1 ⟨rfl, hb1⟩
          refine hK.out _ _ trivial (fun _ => ?_)
          clear hK K
          have hcv := HC.out w.heap.size w1 ((World.cell?_of_block (w := w2) (a := ⟨w.heap.size, 0, none⟩) (hb1.block _ (World.block_lt_of_cell? w2 _ dc))).trans dc)
          try simp only [Act.put, List.setIfInBounds_toArray, List.set_cons_zero, List.set_cons_succ]
          refine forced [8, 9, 10] (by decide) (by kernel_rfl) ?_
          simp only [List.filterMap_cons, List.filterMap_nil, List.getElem?_toArray, List.getElem?_cons_succ, List.getElem?_cons_zero]
          go_wp2
          rw [normalOnly_normal]
          go_wp2
          go_ret
          exact ⟨rfl, grown_below hb0 hb1 hb0.size⟩
        · have hcv := HC.out w.heap.size w2 dc
          rw [if_pos (by rfl)]
          go_simp
          refine hK.out _ _ trivial (fun _ => ?_)
          clear hK K
          try simp only [Act.put, List.setIfInBounds_toArray, List.set_cons_zero, List.set_cons_succ]
          refine forced [2, 9, 10] (by decide) (by kernel_rfl) ?_
          simp only [List.filterMap_cons, List.filterMap_nil, List.getElem?_toArray, List.getElem?_cons_succ, List.getElem?_cons_zero]
          go_wp2_with (go_at_call 99; refine cR2.mono ?_; rintro e w1 ⟨rfl, hb1⟩)
          rw [normalOnly_normal]
          go_wp2
          go_ret
          exact ⟨rfl, grown_below hb0 hb1 hb0.size⟩
end Go.Proofs.YtajlkleoincoeacDoor
