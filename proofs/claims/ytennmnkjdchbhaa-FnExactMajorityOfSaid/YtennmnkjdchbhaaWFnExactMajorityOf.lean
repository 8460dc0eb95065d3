/- The walk of the law FnExactMajorityOf: it returns true and writes nothing that was there. -/
import Derived.Test.YtennmnkjdchbhaaRows
import Derived.Test.YtennmnkjdchbhaaL1
import Derived.Test.YtennmnkjdchbhaaHeld
import Derived.Test.YtennmnkjdchbhaaMaj
namespace Go.Proofs.Ytennmnkjdchbhaa.wFnExactMajorityOf
set_option maxRecDepth 100000
open Go.RowKit
set_option linter.unusedVariables false
set_option linter.unusedSimpArgs false
set_option maxHeartbeats 2000000 in
theorem walk (a : Nat → Nat) (b : Nat → Nat) (c : Nat → Nat) (ha : ∀ k, a k < 65536) (hb : ∀ k, b k < 65536) (hc : ∀ k, c k < 65536) (w : World) :
    Calls Try.prog 10 #[.agg (FC a), .agg (FC b), .agg (FC c)] w fun e w' => e = .returned (.bool true) ∧ Below w.heap.size w w' := by
  have heq := eqF_refl (ifC (majC a b c) (majF a b c))
  have cS := fun w => specMajorityOf_any a b c ha hb hc w
  have cI := fun w => implMajorityOf_any a b c ha hb hc w
  have ba := Blk.new w 49 a
  have bb := Blk.new (w.alloc (.cells (FC a) 49)) 49 b
  replace ba := ba.alloc (.cells (FC b) 49)
  rw [World.size_alloc] at bb
  have bc := Blk.new ((w.alloc (.cells (FC a) 49)).alloc (.cells (FC b) 49)) 49 c
  replace ba := ba.alloc (.cells (FC c) 49)
  replace bb := bb.alloc (.cells (FC c) 49)
  rw [World.size_alloc, World.size_alloc] at bc
  have h0 := ((((Below.refl w.heap.size w).alloc (Nat.le_refl _) (.cells (FC a) 49)).alloc (by simp) (.cells (FC b) 49)).alloc (by simp; omega) (.cells (FC c) 49))
  go_enter Try.func10, Try.ntmps10
  go_wp2_with fail
  generalize (((w.alloc (.cells (FC a) 49)).alloc (.cells (FC b) 49)).alloc (.cells (FC c) 49)) = w0 at *
  refine' wp_cut_blk _ (fun g w' => Blk w' g 50 (ifC (majC a b c) (majF a b c)) ∧ Below w0.heap.size w0 w' ∧ w0.heap.size ≤ g) ?hw0 ?kw0
  case' hw0 =>
    refine wp_region_held_drew (S := fun w' => Below w0.heap.size w0 w') (by kernel_rfl) (below_drew_refl w0) (fun hS => ?_)
    generalize w0.drew = v0 at hS ⊢
    refine held_take (i := 0) rfl (by kernel_rfl) (by kernel_rfl) (by kernel_rfl) (fun _ _ _ h => nomatch h.1) (yieldsIf_load_fr rfl 49 _ _ rfl _ rfl (fun w' h => ba.below h ba.lt) Try.underlying49 (by kernel_rfl)) hS ?_
    try simp only [Act.put, List.setIfInBounds_toArray, List.set_cons_zero, List.set_cons_succ]
    refine held_take (i := 2) rfl (by kernel_rfl) (by kernel_rfl) (by kernel_rfl) (fun _ _ _ h => nomatch h.1) (yieldsIf_load_fr rfl 49 _ _ rfl _ rfl (fun w' h => bb.below h bb.lt) Try.underlying49 (by kernel_rfl)) hS ?_
    try simp only [Act.put, List.setIfInBounds_toArray, List.set_cons_zero, List.set_cons_succ]
    refine held_take (i := 4) rfl (by kernel_rfl) (by kernel_rfl) (by kernel_rfl) (fun _ _ _ h => nomatch h.1) (yieldsIf_load_fr rfl 49 _ _ rfl _ rfl (fun w' h => bc.below h bc.lt) Try.underlying49 (by kernel_rfl)) hS ?_
    try simp only [Act.put, List.setIfInBounds_toArray, List.set_cons_zero, List.set_cons_succ]
    refine wpAnyH_ready (rs := [1, 10]) (by kernel_rfl) (by simp) ?_
    refine held_cons rfl (fun K hK => ?_) ?_
    ·
      go_simp
      go_at_call 39
      refine (toFrame_any _ _).mono ?_
      rintro e v1 ⟨rfl, hb1⟩
      refine hK.out _ _ (grown_below hS hb1 hS.size) (fun hS' => ?_)
      clear hK K hS hb1; have hS := hS'; clear hS'; clear v0
      try simp only [Act.put, List.setIfInBounds_toArray, List.set_cons_zero, List.set_cons_succ]
      refine wpAnyH_ready (rs := [3, 10]) (by kernel_rfl) (by simp) ?_
      refine held_cons rfl (fun K hK => ?_) ?_
      ·
        go_simp
        go_at_call 39
        refine (toFrame_any _ _).mono ?_
        rintro e v2 ⟨rfl, hb1⟩
        refine hK.out _ _ (grown_below hS hb1 hS.size) (fun hS' => ?_)
        clear hK K hS hb1; have hS := hS'; clear hS'; clear v1
        try simp only [Act.put, List.setIfInBounds_toArray, List.set_cons_zero, List.set_cons_succ]
        refine wpAnyH_ready (rs := [5, 10]) (by kernel_rfl) (by simp) ?_
        refine held_cons rfl (fun K hK => ?_) ?_
        ·
          go_simp
          go_at_call 39
          refine (toFrame_any _ _).mono ?_
          rintro e v3 ⟨rfl, hb1⟩
          refine hK.out _ _ (grown_below hS hb1 hS.size) (fun hS' => ?_)
          clear hK K hS hb1; have hS := hS'; clear hS'; clear v2
          try simp only [Act.put, List.setIfInBounds_toArray, List.set_cons_zero, List.set_cons_succ]
          refine wpAnyH_ready (rs := [6, 10]) (by kernel_rfl) (by simp) ?_
          refine held_cons rfl (fun K hK => ?_) ?_
          ·
            go_simp
            go_at_call 38
            refine (cS _).mono ?_
            rintro e v4 ⟨rfl, hb1⟩
            refine hK.out _ _ (grown_below hS hb1 hS.size) (fun hS' => ?_)
            clear hK K hS hb1; have hS := hS'; clear hS'; clear v3
            try simp only [Act.put, List.setIfInBounds_toArray, List.set_cons_zero, List.set_cons_succ]
            refine held_take (i := 7) (v := ?_) rfl (by kernel_rfl) (by kernel_rfl) (by kernel_rfl) (fun _ _ _ h => nomatch h.1) (Or.inl ⟨by rfl, ?_⟩) hS ?_
            rotate_left
            · intro w hSw; go_simp; (try with_reducible rfl)
            try simp only [Act.put, List.setIfInBounds_toArray, List.set_cons_zero, List.set_cons_succ]
            refine held_take (i := 8) (v := ?_) rfl (by kernel_rfl) (by kernel_rfl) (by kernel_rfl) (fun _ _ _ h => nomatch h.1) (Or.inl ⟨by rfl, ?_⟩) hS ?_
            rotate_left
            · intro w hSw; go_simp; (try with_reducible rfl)
            try simp only [Act.put, List.setIfInBounds_toArray, List.set_cons_zero, List.set_cons_succ]
            refine held_take (i := 9) (v := ?_) rfl (by kernel_rfl) (by kernel_rfl) (by kernel_rfl) (fun _ _ _ h => nomatch h.1) (Or.inl ⟨by rfl, ?_⟩) hS ?_
            rotate_left
            · intro w hSw; go_simp; (try with_reducible rfl)
            try simp only [Act.put, List.setIfInBounds_toArray, List.set_cons_zero, List.set_cons_succ]
            refine wpAnyH_ready (rs := [10]) (by kernel_rfl) (by simp) ?_
            refine held_cons rfl (fun K hK => ?_) AllReadyH.nil
            go_simp
            refine hK.out _ _ (hS.alloc hS.size _) (fun hS' => ?_)
            have bn := Blk.new v4 50 zeroF
            rw [FC_zero] at bn
            have hg : w0.heap.size ≤ v4.heap.size := hS.size
            clear hK K hS; have hS := hS'; clear hS'
            generalize v4.alloc (.cells #[.int .u16 0, .int .u16 0, .int .u16 0, .int .u16 0, .int .u16 0, .int .u16 0, .int .u16 0, .int .u16 0, .int .u16 0, .int .u16 0, .int .u16 0, .int .u16 0] 50) = v5 at hS bn ⊢
            generalize v4.heap.size = g at hg bn ⊢
            clear v4
            try simp only [Act.put, List.setIfInBounds_toArray, List.set_cons_zero, List.set_cons_succ]
            refine wpAnyH_ready (rs := [11]) (by kernel_rfl) (by simp) ?_
            refine held_cons rfl (fun K hK => ?_) AllReadyH.nil
            rw [if_pos (by rfl)]
            refine wp_store_fr 50 _ _ rfl g rfl bn rfl (by kernel_rfl) ?_
            refine hK.out _ _ (below_setRow hS hg _) (fun hS' => ?_)
            replace bn := bn.setRow (ifC (majC a b c) (majF a b c))
            clear hK K
            try simp only [Act.put, List.setIfInBounds_toArray, List.set_cons_zero, List.set_cons_succ]
            refine held_take (i := 12) (v := ?_) rfl (by kernel_rfl) (by kernel_rfl) (by kernel_rfl) (fun _ _ _ h => nomatch h.1) (Or.inl ⟨by rfl, ?_⟩) hS' ?_
            rotate_left
            · intro w hSw; go_simp; (try with_reducible rfl)
            try simp only [Act.put, List.setIfInBounds_toArray, List.set_cons_zero, List.set_cons_succ]
            refine wpAnyH_done (by kernel_rfl) ⟨rfl, g, ?_, bn, hS', hg⟩ _
            exact rfl
          refine held_cons rfl (fun K hK => ?_) AllReadyH.nil
          go_simp
          refine hK.out _ _ (hS.alloc hS.size _) (fun hS' => ?_)
          have bn := Blk.new v3 50 zeroF
          rw [FC_zero] at bn
          have hg : w0.heap.size ≤ v3.heap.size := hS.size
          clear hK K hS; have hS := hS'; clear hS'
          generalize v3.alloc (.cells #[.int .u16 0, .int .u16 0, .int .u16 0, .int .u16 0, .int .u16 0, .int .u16 0, .int .u16 0, .int .u16 0, .int .u16 0, .int .u16 0, .int .u16 0, .int .u16 0] 50) = v4 at hS bn ⊢
          generalize v3.heap.size = g at hg bn ⊢
          clear v3
          try simp only [Act.put, List.setIfInBounds_toArray, List.set_cons_zero, List.set_cons_succ]
          refine wpAnyH_ready (rs := [6]) (by kernel_rfl) (by simp) ?_
          refine held_cons rfl (fun K hK => ?_) AllReadyH.nil
          go_simp
          go_at_call 38
          refine (cS _).mono ?_
          rintro e v5 ⟨rfl, hb1⟩
          refine hK.out _ _ (grown_below hS hb1 hS.size) (fun hS' => ?_)
          replace bn := bn.below hb1 bn.lt
          clear hK K hS hb1; have hS := hS'; clear hS'; clear v4
          try simp only [Act.put, List.setIfInBounds_toArray, List.set_cons_zero, List.set_cons_succ]
          refine held_take (i := 7) (v := ?_) rfl (by kernel_rfl) (by kernel_rfl) (by kernel_rfl) (fun _ _ _ h => nomatch h.1) (Or.inl ⟨by rfl, ?_⟩) hS ?_
          rotate_left
          · intro w hSw; go_simp; (try with_reducible rfl)
          try simp only [Act.put, List.setIfInBounds_toArray, List.set_cons_zero, List.set_cons_succ]
          refine held_take (i := 8) (v := ?_) rfl (by kernel_rfl) (by kernel_rfl) (by kernel_rfl) (fun _ _ _ h => nomatch h.1) (Or.inl ⟨by rfl, ?_⟩) hS ?_
          rotate_left
          · intro w hSw; go_simp; (try with_reducible rfl)
          try simp only [Act.put, List.setIfInBounds_toArray, List.set_cons_zero, List.set_cons_succ]
          refine held_take (i := 9) (v := ?_) rfl (by kernel_rfl) (by kernel_rfl) (by kernel_rfl) (fun _ _ _ h => nomatch h.1) (Or.inl ⟨by rfl, ?_⟩) hS ?_
          rotate_left
          · intro w hSw; go_simp; (try with_reducible rfl)
          try simp only [Act.put, List.setIfInBounds_toArray, List.set_cons_zero, List.set_cons_succ]
          refine wpAnyH_ready (rs := [11]) (by kernel_rfl) (by simp) ?_
          refine held_cons rfl (fun K hK => ?_) AllReadyH.nil
          rw [if_pos (by rfl)]
          refine wp_store_fr 50 _ _ rfl g rfl bn rfl (by kernel_rfl) ?_
          refine hK.out _ _ (below_setRow hS hg _) (fun hS' => ?_)
          replace bn := bn.setRow (ifC (majC a b c) (majF a b c))
          clear hK K
          try simp only [Act.put, List.setIfInBounds_toArray, List.set_cons_zero, List.set_cons_succ]
          refine held_take (i := 12) (v := ?_) rfl (by kernel_rfl) (by kernel_rfl) (by kernel_rfl) (fun _ _ _ h => nomatch h.1) (Or.inl ⟨by rfl, ?_⟩) hS' ?_
          rotate_left
          · intro w hSw; go_simp; (try with_reducible rfl)
          try simp only [Act.put, List.setIfInBounds_toArray, List.set_cons_zero, List.set_cons_succ]
          refine wpAnyH_done (by kernel_rfl) ⟨rfl, g, ?_, bn, hS', hg⟩ _
          exact rfl
        refine held_cons rfl (fun K hK => ?_) AllReadyH.nil
        go_simp
        refine hK.out _ _ (hS.alloc hS.size _) (fun hS' => ?_)
        have bn := Blk.new v2 50 zeroF
        rw [FC_zero] at bn
        have hg : w0.heap.size ≤ v2.heap.size := hS.size
        clear hK K hS; have hS := hS'; clear hS'
        generalize v2.alloc (.cells #[.int .u16 0, .int .u16 0, .int .u16 0, .int .u16 0, .int .u16 0, .int .u16 0, .int .u16 0, .int .u16 0, .int .u16 0, .int .u16 0, .int .u16 0, .int .u16 0] 50) = v3 at hS bn ⊢
        generalize v2.heap.size = g at hg bn ⊢
        clear v2
        try simp only [Act.put, List.setIfInBounds_toArray, List.set_cons_zero, List.set_cons_succ]
        refine wpAnyH_ready (rs := [5]) (by kernel_rfl) (by simp) ?_
        refine held_cons rfl (fun K hK => ?_) AllReadyH.nil
        go_simp
        go_at_call 39
        refine (toFrame_any _ _).mono ?_
        rintro e v4 ⟨rfl, hb1⟩
        refine hK.out _ _ (grown_below hS hb1 hS.size) (fun hS' => ?_)
        replace bn := bn.below hb1 bn.lt
        clear hK K hS hb1; have hS := hS'; clear hS'; clear v3
        try simp only [Act.put, List.setIfInBounds_toArray, List.set_cons_zero, List.set_cons_succ]
        refine wpAnyH_ready (rs := [6]) (by kernel_rfl) (by simp) ?_
        refine held_cons rfl (fun K hK => ?_) AllReadyH.nil
        go_simp
        go_at_call 38
        refine (cS _).mono ?_
        rintro e v5 ⟨rfl, hb1⟩
        refine hK.out _ _ (grown_below hS hb1 hS.size) (fun hS' => ?_)
        replace bn := bn.below hb1 bn.lt
        clear hK K hS hb1; have hS := hS'; clear hS'; clear v4
        try simp only [Act.put, List.setIfInBounds_toArray, List.set_cons_zero, List.set_cons_succ]
        refine held_take (i := 7) (v := ?_) rfl (by kernel_rfl) (by kernel_rfl) (by kernel_rfl) (fun _ _ _ h => nomatch h.1) (Or.inl ⟨by rfl, ?_⟩) hS ?_
        rotate_left
        · intro w hSw; go_simp; (try with_reducible rfl)
        try simp only [Act.put, List.setIfInBounds_toArray, List.set_cons_zero, List.set_cons_succ]
        refine held_take (i := 8) (v := ?_) rfl (by kernel_rfl) (by kernel_rfl) (by kernel_rfl) (fun _ _ _ h => nomatch h.1) (Or.inl ⟨by rfl, ?_⟩) hS ?_
        rotate_left
        · intro w hSw; go_simp; (try with_reducible rfl)
        try simp only [Act.put, List.setIfInBounds_toArray, List.set_cons_zero, List.set_cons_succ]
        refine held_take (i := 9) (v := ?_) rfl (by kernel_rfl) (by kernel_rfl) (by kernel_rfl) (fun _ _ _ h => nomatch h.1) (Or.inl ⟨by rfl, ?_⟩) hS ?_
        rotate_left
        · intro w hSw; go_simp; (try with_reducible rfl)
        try simp only [Act.put, List.setIfInBounds_toArray, List.set_cons_zero, List.set_cons_succ]
        refine wpAnyH_ready (rs := [11]) (by kernel_rfl) (by simp) ?_
        refine held_cons rfl (fun K hK => ?_) AllReadyH.nil
        rw [if_pos (by rfl)]
        refine wp_store_fr 50 _ _ rfl g rfl bn rfl (by kernel_rfl) ?_
        refine hK.out _ _ (below_setRow hS hg _) (fun hS' => ?_)
        replace bn := bn.setRow (ifC (majC a b c) (majF a b c))
        clear hK K
        try simp only [Act.put, List.setIfInBounds_toArray, List.set_cons_zero, List.set_cons_succ]
        refine held_take (i := 12) (v := ?_) rfl (by kernel_rfl) (by kernel_rfl) (by kernel_rfl) (fun _ _ _ h => nomatch h.1) (Or.inl ⟨by rfl, ?_⟩) hS' ?_
        rotate_left
        · intro w hSw; go_simp; (try with_reducible rfl)
        try simp only [Act.put, List.setIfInBounds_toArray, List.set_cons_zero, List.set_cons_succ]
        refine wpAnyH_done (by kernel_rfl) ⟨rfl, g, ?_, bn, hS', hg⟩ _
        exact rfl
      refine held_cons rfl (fun K hK => ?_) AllReadyH.nil
      go_simp
      refine hK.out _ _ (hS.alloc hS.size _) (fun hS' => ?_)
      have bn := Blk.new v1 50 zeroF
      rw [FC_zero] at bn
      have hg : w0.heap.size ≤ v1.heap.size := hS.size
      clear hK K hS; have hS := hS'; clear hS'
      generalize v1.alloc (.cells #[.int .u16 0, .int .u16 0, .int .u16 0, .int .u16 0, .int .u16 0, .int .u16 0, .int .u16 0, .int .u16 0, .int .u16 0, .int .u16 0, .int .u16 0, .int .u16 0] 50) = v2 at hS bn ⊢
      generalize v1.heap.size = g at hg bn ⊢
      clear v1
      try simp only [Act.put, List.setIfInBounds_toArray, List.set_cons_zero, List.set_cons_succ]
      refine wpAnyH_ready (rs := [3]) (by kernel_rfl) (by simp) ?_
      refine held_cons rfl (fun K hK => ?_) AllReadyH.nil
      go_simp
      go_at_call 39
      refine (toFrame_any _ _).mono ?_
      rintro e v3 ⟨rfl, hb1⟩
      refine hK.out _ _ (grown_below hS hb1 hS.size) (fun hS' => ?_)
      replace bn := bn.below hb1 bn.lt
      clear hK K hS hb1; have hS := hS'; clear hS'; clear v2
      try simp only [Act.put, List.setIfInBounds_toArray, List.set_cons_zero, List.set_cons_succ]
      refine wpAnyH_ready (rs := [5]) (by kernel_rfl) (by simp) ?_
      refine held_cons rfl (fun K hK => ?_) AllReadyH.nil
      go_simp
      go_at_call 39
      refine (toFrame_any _ _).mono ?_
      rintro e v4 ⟨rfl, hb1⟩
      refine hK.out _ _ (grown_below hS hb1 hS.size) (fun hS' => ?_)
      replace bn := bn.below hb1 bn.lt
      clear hK K hS hb1; have hS := hS'; clear hS'; clear v3
      try simp only [Act.put, List.setIfInBounds_toArray, List.set_cons_zero, List.set_cons_succ]
      refine wpAnyH_ready (rs := [6]) (by kernel_rfl) (by simp) ?_
      refine held_cons rfl (fun K hK => ?_) AllReadyH.nil
      go_simp
      go_at_call 38
      refine (cS _).mono ?_
      rintro e v5 ⟨rfl, hb1⟩
      refine hK.out _ _ (grown_below hS hb1 hS.size) (fun hS' => ?_)
      replace bn := bn.below hb1 bn.lt
      clear hK K hS hb1; have hS := hS'; clear hS'; clear v4
      try simp only [Act.put, List.setIfInBounds_toArray, List.set_cons_zero, List.set_cons_succ]
      refine held_take (i := 7) (v := ?_) rfl (by kernel_rfl) (by kernel_rfl) (by kernel_rfl) (fun _ _ _ h => nomatch h.1) (Or.inl ⟨by rfl, ?_⟩) hS ?_
      rotate_left
      · intro w hSw; go_simp; (try with_reducible rfl)
      try simp only [Act.put, List.setIfInBounds_toArray, List.set_cons_zero, List.set_cons_succ]
      refine held_take (i := 8) (v := ?_) rfl (by kernel_rfl) (by kernel_rfl) (by kernel_rfl) (fun _ _ _ h => nomatch h.1) (Or.inl ⟨by rfl, ?_⟩) hS ?_
      rotate_left
      · intro w hSw; go_simp; (try with_reducible rfl)
      try simp only [Act.put, List.setIfInBounds_toArray, List.set_cons_zero, List.set_cons_succ]
      refine held_take (i := 9) (v := ?_) rfl (by kernel_rfl) (by kernel_rfl) (by kernel_rfl) (fun _ _ _ h => nomatch h.1) (Or.inl ⟨by rfl, ?_⟩) hS ?_
      rotate_left
      · intro w hSw; go_simp; (try with_reducible rfl)
      try simp only [Act.put, List.setIfInBounds_toArray, List.set_cons_zero, List.set_cons_succ]
      refine wpAnyH_ready (rs := [11]) (by kernel_rfl) (by simp) ?_
      refine held_cons rfl (fun K hK => ?_) AllReadyH.nil
      rw [if_pos (by rfl)]
      refine wp_store_fr 50 _ _ rfl g rfl bn rfl (by kernel_rfl) ?_
      refine hK.out _ _ (below_setRow hS hg _) (fun hS' => ?_)
      replace bn := bn.setRow (ifC (majC a b c) (majF a b c))
      clear hK K
      try simp only [Act.put, List.setIfInBounds_toArray, List.set_cons_zero, List.set_cons_succ]
      refine held_take (i := 12) (v := ?_) rfl (by kernel_rfl) (by kernel_rfl) (by kernel_rfl) (fun _ _ _ h => nomatch h.1) (Or.inl ⟨by rfl, ?_⟩) hS' ?_
      rotate_left
      · intro w hSw; go_simp; (try with_reducible rfl)
      try simp only [Act.put, List.setIfInBounds_toArray, List.set_cons_zero, List.set_cons_succ]
      refine wpAnyH_done (by kernel_rfl) ⟨rfl, g, ?_, bn, hS', hg⟩ _
      exact rfl
    refine held_cons rfl (fun K hK => ?_) AllReadyH.nil
    go_simp
    refine hK.out _ _ (hS.alloc hS.size _) (fun hS' => ?_)
    have bn := Blk.new v0 50 zeroF
    rw [FC_zero] at bn
    have hg : w0.heap.size ≤ v0.heap.size := hS.size
    clear hK K hS; have hS := hS'; clear hS'
    generalize v0.alloc (.cells #[.int .u16 0, .int .u16 0, .int .u16 0, .int .u16 0, .int .u16 0, .int .u16 0, .int .u16 0, .int .u16 0, .int .u16 0, .int .u16 0, .int .u16 0, .int .u16 0] 50) = v1 at hS bn ⊢
    generalize v0.heap.size = g at hg bn ⊢
    clear v0
    try simp only [Act.put, List.setIfInBounds_toArray, List.set_cons_zero, List.set_cons_succ]
    refine wpAnyH_ready (rs := [1]) (by kernel_rfl) (by simp) ?_
    refine held_cons rfl (fun K hK => ?_) AllReadyH.nil
    go_simp
    go_at_call 39
    refine (toFrame_any _ _).mono ?_
    rintro e v2 ⟨rfl, hb1⟩
    refine hK.out _ _ (grown_below hS hb1 hS.size) (fun hS' => ?_)
    replace bn := bn.below hb1 bn.lt
    clear hK K hS hb1; have hS := hS'; clear hS'; clear v1
    try simp only [Act.put, List.setIfInBounds_toArray, List.set_cons_zero, List.set_cons_succ]
    refine wpAnyH_ready (rs := [3]) (by kernel_rfl) (by simp) ?_
    refine held_cons rfl (fun K hK => ?_) AllReadyH.nil
    go_simp
    go_at_call 39
    refine (toFrame_any _ _).mono ?_
    rintro e v3 ⟨rfl, hb1⟩
    refine hK.out _ _ (grown_below hS hb1 hS.size) (fun hS' => ?_)
    replace bn := bn.below hb1 bn.lt
    clear hK K hS hb1; have hS := hS'; clear hS'; clear v2
    try simp only [Act.put, List.setIfInBounds_toArray, List.set_cons_zero, List.set_cons_succ]
    refine wpAnyH_ready (rs := [5]) (by kernel_rfl) (by simp) ?_
    refine held_cons rfl (fun K hK => ?_) AllReadyH.nil
    go_simp
    go_at_call 39
    refine (toFrame_any _ _).mono ?_
    rintro e v4 ⟨rfl, hb1⟩
    refine hK.out _ _ (grown_below hS hb1 hS.size) (fun hS' => ?_)
    replace bn := bn.below hb1 bn.lt
    clear hK K hS hb1; have hS := hS'; clear hS'; clear v3
    try simp only [Act.put, List.setIfInBounds_toArray, List.set_cons_zero, List.set_cons_succ]
    refine wpAnyH_ready (rs := [6]) (by kernel_rfl) (by simp) ?_
    refine held_cons rfl (fun K hK => ?_) AllReadyH.nil
    go_simp
    go_at_call 38
    refine (cS _).mono ?_
    rintro e v5 ⟨rfl, hb1⟩
    refine hK.out _ _ (grown_below hS hb1 hS.size) (fun hS' => ?_)
    replace bn := bn.below hb1 bn.lt
    clear hK K hS hb1; have hS := hS'; clear hS'; clear v4
    try simp only [Act.put, List.setIfInBounds_toArray, List.set_cons_zero, List.set_cons_succ]
    refine held_take (i := 7) (v := ?_) rfl (by kernel_rfl) (by kernel_rfl) (by kernel_rfl) (fun _ _ _ h => nomatch h.1) (Or.inl ⟨by rfl, ?_⟩) hS ?_
    rotate_left
    · intro w hSw; go_simp; (try with_reducible rfl)
    try simp only [Act.put, List.setIfInBounds_toArray, List.set_cons_zero, List.set_cons_succ]
    refine held_take (i := 8) (v := ?_) rfl (by kernel_rfl) (by kernel_rfl) (by kernel_rfl) (fun _ _ _ h => nomatch h.1) (Or.inl ⟨by rfl, ?_⟩) hS ?_
    rotate_left
    · intro w hSw; go_simp; (try with_reducible rfl)
    try simp only [Act.put, List.setIfInBounds_toArray, List.set_cons_zero, List.set_cons_succ]
    refine held_take (i := 9) (v := ?_) rfl (by kernel_rfl) (by kernel_rfl) (by kernel_rfl) (fun _ _ _ h => nomatch h.1) (Or.inl ⟨by rfl, ?_⟩) hS ?_
    rotate_left
    · intro w hSw; go_simp; (try with_reducible rfl)
    try simp only [Act.put, List.setIfInBounds_toArray, List.set_cons_zero, List.set_cons_succ]
    refine wpAnyH_ready (rs := [11]) (by kernel_rfl) (by simp) ?_
    refine held_cons rfl (fun K hK => ?_) AllReadyH.nil
    rw [if_pos (by rfl)]
    refine wp_store_fr 50 _ _ rfl g rfl bn rfl (by kernel_rfl) ?_
    refine hK.out _ _ (below_setRow hS hg _) (fun hS' => ?_)
    replace bn := bn.setRow (ifC (majC a b c) (majF a b c))
    clear hK K
    try simp only [Act.put, List.setIfInBounds_toArray, List.set_cons_zero, List.set_cons_succ]
    refine held_take (i := 12) (v := ?_) rfl (by kernel_rfl) (by kernel_rfl) (by kernel_rfl) (fun _ _ _ h => nomatch h.1) (Or.inl ⟨by rfl, ?_⟩) hS' ?_
    rotate_left
    · intro w hSw; go_simp; (try with_reducible rfl)
    try simp only [Act.put, List.setIfInBounds_toArray, List.set_cons_zero, List.set_cons_succ]
    refine wpAnyH_done (by kernel_rfl) ⟨rfl, g, ?_, bn, hS', hg⟩ _
    exact rfl
  rintro g1 w1 ⟨bw, hB, hg⟩
  replace ba := ba.below hB ba.lt
  replace bb := bb.below hB bb.lt
  replace bc := bc.below hB bc.lt
  replace h0 := grown_below h0 hB h0.size
  clear hB hg
  go_wp2_with fail
  refine' wp_cut_blk _ (fun g w' => Blk w' g 50 (ifC (majC a b c) (majF a b c)) ∧ Below w1.heap.size w1 w' ∧ w1.heap.size ≤ g) ?hw1 ?kw1
  case' hw1 =>
    refine wp_region_held_drew (S := fun w' => Below w1.heap.size w1 w') (by kernel_rfl) (below_drew_refl w1) (fun hS => ?_)
    generalize w1.drew = v0 at hS ⊢
    refine held_take (i := 0) rfl (by kernel_rfl) (by kernel_rfl) (by kernel_rfl) (fun _ _ _ h => nomatch h.1) (yieldsIf_load_fr rfl 49 _ _ rfl _ rfl (fun w' h => ba.below h ba.lt) Try.underlying49 (by kernel_rfl)) hS ?_
    try simp only [Act.put, List.setIfInBounds_toArray, List.set_cons_zero, List.set_cons_succ]
    refine held_take (i := 2) rfl (by kernel_rfl) (by kernel_rfl) (by kernel_rfl) (fun _ _ _ h => nomatch h.1) (yieldsIf_load_fr rfl 49 _ _ rfl _ rfl (fun w' h => bb.below h bb.lt) Try.underlying49 (by kernel_rfl)) hS ?_
    try simp only [Act.put, List.setIfInBounds_toArray, List.set_cons_zero, List.set_cons_succ]
    refine held_take (i := 4) rfl (by kernel_rfl) (by kernel_rfl) (by kernel_rfl) (fun _ _ _ h => nomatch h.1) (yieldsIf_load_fr rfl 49 _ _ rfl _ rfl (fun w' h => bc.below h bc.lt) Try.underlying49 (by kernel_rfl)) hS ?_
    try simp only [Act.put, List.setIfInBounds_toArray, List.set_cons_zero, List.set_cons_succ]
    refine wpAnyH_ready (rs := [1, 10]) (by kernel_rfl) (by simp) ?_
    refine held_cons rfl (fun K hK => ?_) ?_
    ·
      go_simp
      go_at_call 39
      refine (toFrame_any _ _).mono ?_
      rintro e v1 ⟨rfl, hb1⟩
      refine hK.out _ _ (grown_below hS hb1 hS.size) (fun hS' => ?_)
      clear hK K hS hb1; have hS := hS'; clear hS'; clear v0
      try simp only [Act.put, List.setIfInBounds_toArray, List.set_cons_zero, List.set_cons_succ]
      refine wpAnyH_ready (rs := [3, 10]) (by kernel_rfl) (by simp) ?_
      refine held_cons rfl (fun K hK => ?_) ?_
      ·
        go_simp
        go_at_call 39
        refine (toFrame_any _ _).mono ?_
        rintro e v2 ⟨rfl, hb1⟩
        refine hK.out _ _ (grown_below hS hb1 hS.size) (fun hS' => ?_)
        clear hK K hS hb1; have hS := hS'; clear hS'; clear v1
        try simp only [Act.put, List.setIfInBounds_toArray, List.set_cons_zero, List.set_cons_succ]
        refine wpAnyH_ready (rs := [5, 10]) (by kernel_rfl) (by simp) ?_
        refine held_cons rfl (fun K hK => ?_) ?_
        ·
          go_simp
          go_at_call 39
          refine (toFrame_any _ _).mono ?_
          rintro e v3 ⟨rfl, hb1⟩
          refine hK.out _ _ (grown_below hS hb1 hS.size) (fun hS' => ?_)
          clear hK K hS hb1; have hS := hS'; clear hS'; clear v2
          try simp only [Act.put, List.setIfInBounds_toArray, List.set_cons_zero, List.set_cons_succ]
          refine wpAnyH_ready (rs := [6, 10]) (by kernel_rfl) (by simp) ?_
          refine held_cons rfl (fun K hK => ?_) ?_
          ·
            go_simp
            go_at_call 40
            refine (cI _).mono ?_
            rintro e v4 ⟨rfl, hb1⟩
            refine hK.out _ _ (grown_below hS hb1 hS.size) (fun hS' => ?_)
            clear hK K hS hb1; have hS := hS'; clear hS'; clear v3
            try simp only [Act.put, List.setIfInBounds_toArray, List.set_cons_zero, List.set_cons_succ]
            refine held_take (i := 7) (v := ?_) rfl (by kernel_rfl) (by kernel_rfl) (by kernel_rfl) (fun _ _ _ h => nomatch h.1) (Or.inl ⟨by rfl, ?_⟩) hS ?_
            rotate_left
            · intro w hSw; go_simp; (try with_reducible rfl)
            try simp only [Act.put, List.setIfInBounds_toArray, List.set_cons_zero, List.set_cons_succ]
            refine held_take (i := 8) (v := ?_) rfl (by kernel_rfl) (by kernel_rfl) (by kernel_rfl) (fun _ _ _ h => nomatch h.1) (Or.inl ⟨by rfl, ?_⟩) hS ?_
            rotate_left
            · intro w hSw; go_simp; (try with_reducible rfl)
            try simp only [Act.put, List.setIfInBounds_toArray, List.set_cons_zero, List.set_cons_succ]
            refine held_take (i := 9) (v := ?_) rfl (by kernel_rfl) (by kernel_rfl) (by kernel_rfl) (fun _ _ _ h => nomatch h.1) (Or.inl ⟨by rfl, ?_⟩) hS ?_
            rotate_left
            · intro w hSw; go_simp; (try with_reducible rfl)
            try simp only [Act.put, List.setIfInBounds_toArray, List.set_cons_zero, List.set_cons_succ]
            refine wpAnyH_ready (rs := [10]) (by kernel_rfl) (by simp) ?_
            refine held_cons rfl (fun K hK => ?_) AllReadyH.nil
            go_simp
            refine hK.out _ _ (hS.alloc hS.size _) (fun hS' => ?_)
            have bn := Blk.new v4 50 zeroF
            rw [FC_zero] at bn
            have hg : w1.heap.size ≤ v4.heap.size := hS.size
            clear hK K hS; have hS := hS'; clear hS'
            generalize v4.alloc (.cells #[.int .u16 0, .int .u16 0, .int .u16 0, .int .u16 0, .int .u16 0, .int .u16 0, .int .u16 0, .int .u16 0, .int .u16 0, .int .u16 0, .int .u16 0, .int .u16 0] 50) = v5 at hS bn ⊢
            generalize v4.heap.size = g at hg bn ⊢
            clear v4
            try simp only [Act.put, List.setIfInBounds_toArray, List.set_cons_zero, List.set_cons_succ]
            refine wpAnyH_ready (rs := [11]) (by kernel_rfl) (by simp) ?_
            refine held_cons rfl (fun K hK => ?_) AllReadyH.nil
            rw [if_pos (by rfl)]
            refine wp_store_fr 50 _ _ rfl g rfl bn rfl (by kernel_rfl) ?_
            refine hK.out _ _ (below_setRow hS hg _) (fun hS' => ?_)
            replace bn := bn.setRow (ifC (majC a b c) (majF a b c))
            clear hK K
            try simp only [Act.put, List.setIfInBounds_toArray, List.set_cons_zero, List.set_cons_succ]
            refine held_take (i := 12) (v := ?_) rfl (by kernel_rfl) (by kernel_rfl) (by kernel_rfl) (fun _ _ _ h => nomatch h.1) (Or.inl ⟨by rfl, ?_⟩) hS' ?_
            rotate_left
            · intro w hSw; go_simp; (try with_reducible rfl)
            try simp only [Act.put, List.setIfInBounds_toArray, List.set_cons_zero, List.set_cons_succ]
            refine wpAnyH_done (by kernel_rfl) ⟨rfl, g, ?_, bn, hS', hg⟩ _
            exact rfl
          refine held_cons rfl (fun K hK => ?_) AllReadyH.nil
          go_simp
          refine hK.out _ _ (hS.alloc hS.size _) (fun hS' => ?_)
          have bn := Blk.new v3 50 zeroF
          rw [FC_zero] at bn
          have hg : w1.heap.size ≤ v3.heap.size := hS.size
          clear hK K hS; have hS := hS'; clear hS'
          generalize v3.alloc (.cells #[.int .u16 0, .int .u16 0, .int .u16 0, .int .u16 0, .int .u16 0, .int .u16 0, .int .u16 0, .int .u16 0, .int .u16 0, .int .u16 0, .int .u16 0, .int .u16 0] 50) = v4 at hS bn ⊢
          generalize v3.heap.size = g at hg bn ⊢
          clear v3
          try simp only [Act.put, List.setIfInBounds_toArray, List.set_cons_zero, List.set_cons_succ]
          refine wpAnyH_ready (rs := [6]) (by kernel_rfl) (by simp) ?_
          refine held_cons rfl (fun K hK => ?_) AllReadyH.nil
          go_simp
          go_at_call 40
          refine (cI _).mono ?_
          rintro e v5 ⟨rfl, hb1⟩
          refine hK.out _ _ (grown_below hS hb1 hS.size) (fun hS' => ?_)
          replace bn := bn.below hb1 bn.lt
          clear hK K hS hb1; have hS := hS'; clear hS'; clear v4
          try simp only [Act.put, List.setIfInBounds_toArray, List.set_cons_zero, List.set_cons_succ]
          refine held_take (i := 7) (v := ?_) rfl (by kernel_rfl) (by kernel_rfl) (by kernel_rfl) (fun _ _ _ h => nomatch h.1) (Or.inl ⟨by rfl, ?_⟩) hS ?_
          rotate_left
          · intro w hSw; go_simp; (try with_reducible rfl)
          try simp only [Act.put, List.setIfInBounds_toArray, List.set_cons_zero, List.set_cons_succ]
          refine held_take (i := 8) (v := ?_) rfl (by kernel_rfl) (by kernel_rfl) (by kernel_rfl) (fun _ _ _ h => nomatch h.1) (Or.inl ⟨by rfl, ?_⟩) hS ?_
          rotate_left
          · intro w hSw; go_simp; (try with_reducible rfl)
          try simp only [Act.put, List.setIfInBounds_toArray, List.set_cons_zero, List.set_cons_succ]
          refine held_take (i := 9) (v := ?_) rfl (by kernel_rfl) (by kernel_rfl) (by kernel_rfl) (fun _ _ _ h => nomatch h.1) (Or.inl ⟨by rfl, ?_⟩) hS ?_
          rotate_left
          · intro w hSw; go_simp; (try with_reducible rfl)
          try simp only [Act.put, List.setIfInBounds_toArray, List.set_cons_zero, List.set_cons_succ]
          refine wpAnyH_ready (rs := [11]) (by kernel_rfl) (by simp) ?_
          refine held_cons rfl (fun K hK => ?_) AllReadyH.nil
          rw [if_pos (by rfl)]
          refine wp_store_fr 50 _ _ rfl g rfl bn rfl (by kernel_rfl) ?_
          refine hK.out _ _ (below_setRow hS hg _) (fun hS' => ?_)
          replace bn := bn.setRow (ifC (majC a b c) (majF a b c))
          clear hK K
          try simp only [Act.put, List.setIfInBounds_toArray, List.set_cons_zero, List.set_cons_succ]
          refine held_take (i := 12) (v := ?_) rfl (by kernel_rfl) (by kernel_rfl) (by kernel_rfl) (fun _ _ _ h => nomatch h.1) (Or.inl ⟨by rfl, ?_⟩) hS' ?_
          rotate_left
          · intro w hSw; go_simp; (try with_reducible rfl)
          try simp only [Act.put, List.setIfInBounds_toArray, List.set_cons_zero, List.set_cons_succ]
          refine wpAnyH_done (by kernel_rfl) ⟨rfl, g, ?_, bn, hS', hg⟩ _
          exact rfl
        refine held_cons rfl (fun K hK => ?_) AllReadyH.nil
        go_simp
        refine hK.out _ _ (hS.alloc hS.size _) (fun hS' => ?_)
        have bn := Blk.new v2 50 zeroF
        rw [FC_zero] at bn
        have hg : w1.heap.size ≤ v2.heap.size := hS.size
        clear hK K hS; have hS := hS'; clear hS'
        generalize v2.alloc (.cells #[.int .u16 0, .int .u16 0, .int .u16 0, .int .u16 0, .int .u16 0, .int .u16 0, .int .u16 0, .int .u16 0, .int .u16 0, .int .u16 0, .int .u16 0, .int .u16 0] 50) = v3 at hS bn ⊢
        generalize v2.heap.size = g at hg bn ⊢
        clear v2
        try simp only [Act.put, List.setIfInBounds_toArray, List.set_cons_zero, List.set_cons_succ]
        refine wpAnyH_ready (rs := [5]) (by kernel_rfl) (by simp) ?_
        refine held_cons rfl (fun K hK => ?_) AllReadyH.nil
        go_simp
        go_at_call 39
        refine (toFrame_any _ _).mono ?_
        rintro e v4 ⟨rfl, hb1⟩
        refine hK.out _ _ (grown_below hS hb1 hS.size) (fun hS' => ?_)
        replace bn := bn.below hb1 bn.lt
        clear hK K hS hb1; have hS := hS'; clear hS'; clear v3
        try simp only [Act.put, List.setIfInBounds_toArray, List.set_cons_zero, List.set_cons_succ]
        refine wpAnyH_ready (rs := [6]) (by kernel_rfl) (by simp) ?_
        refine held_cons rfl (fun K hK => ?_) AllReadyH.nil
        go_simp
        go_at_call 40
        refine (cI _).mono ?_
        rintro e v5 ⟨rfl, hb1⟩
        refine hK.out _ _ (grown_below hS hb1 hS.size) (fun hS' => ?_)
        replace bn := bn.below hb1 bn.lt
        clear hK K hS hb1; have hS := hS'; clear hS'; clear v4
        try simp only [Act.put, List.setIfInBounds_toArray, List.set_cons_zero, List.set_cons_succ]
        refine held_take (i := 7) (v := ?_) rfl (by kernel_rfl) (by kernel_rfl) (by kernel_rfl) (fun _ _ _ h => nomatch h.1) (Or.inl ⟨by rfl, ?_⟩) hS ?_
        rotate_left
        · intro w hSw; go_simp; (try with_reducible rfl)
        try simp only [Act.put, List.setIfInBounds_toArray, List.set_cons_zero, List.set_cons_succ]
        refine held_take (i := 8) (v := ?_) rfl (by kernel_rfl) (by kernel_rfl) (by kernel_rfl) (fun _ _ _ h => nomatch h.1) (Or.inl ⟨by rfl, ?_⟩) hS ?_
        rotate_left
        · intro w hSw; go_simp; (try with_reducible rfl)
        try simp only [Act.put, List.setIfInBounds_toArray, List.set_cons_zero, List.set_cons_succ]
        refine held_take (i := 9) (v := ?_) rfl (by kernel_rfl) (by kernel_rfl) (by kernel_rfl) (fun _ _ _ h => nomatch h.1) (Or.inl ⟨by rfl, ?_⟩) hS ?_
        rotate_left
        · intro w hSw; go_simp; (try with_reducible rfl)
        try simp only [Act.put, List.setIfInBounds_toArray, List.set_cons_zero, List.set_cons_succ]
        refine wpAnyH_ready (rs := [11]) (by kernel_rfl) (by simp) ?_
        refine held_cons rfl (fun K hK => ?_) AllReadyH.nil
        rw [if_pos (by rfl)]
        refine wp_store_fr 50 _ _ rfl g rfl bn rfl (by kernel_rfl) ?_
        refine hK.out _ _ (below_setRow hS hg _) (fun hS' => ?_)
        replace bn := bn.setRow (ifC (majC a b c) (majF a b c))
        clear hK K
        try simp only [Act.put, List.setIfInBounds_toArray, List.set_cons_zero, List.set_cons_succ]
        refine held_take (i := 12) (v := ?_) rfl (by kernel_rfl) (by kernel_rfl) (by kernel_rfl) (fun _ _ _ h => nomatch h.1) (Or.inl ⟨by rfl, ?_⟩) hS' ?_
        rotate_left
        · intro w hSw; go_simp; (try with_reducible rfl)
        try simp only [Act.put, List.setIfInBounds_toArray, List.set_cons_zero, List.set_cons_succ]
        refine wpAnyH_done (by kernel_rfl) ⟨rfl, g, ?_, bn, hS', hg⟩ _
        exact rfl
      refine held_cons rfl (fun K hK => ?_) AllReadyH.nil
      go_simp
      refine hK.out _ _ (hS.alloc hS.size _) (fun hS' => ?_)
      have bn := Blk.new v1 50 zeroF
      rw [FC_zero] at bn
      have hg : w1.heap.size ≤ v1.heap.size := hS.size
      clear hK K hS; have hS := hS'; clear hS'
      generalize v1.alloc (.cells #[.int .u16 0, .int .u16 0, .int .u16 0, .int .u16 0, .int .u16 0, .int .u16 0, .int .u16 0, .int .u16 0, .int .u16 0, .int .u16 0, .int .u16 0, .int .u16 0] 50) = v2 at hS bn ⊢
      generalize v1.heap.size = g at hg bn ⊢
      clear v1
      try simp only [Act.put, List.setIfInBounds_toArray, List.set_cons_zero, List.set_cons_succ]
      refine wpAnyH_ready (rs := [3]) (by kernel_rfl) (by simp) ?_
      refine held_cons rfl (fun K hK => ?_) AllReadyH.nil
      go_simp
      go_at_call 39
      refine (toFrame_any _ _).mono ?_
      rintro e v3 ⟨rfl, hb1⟩
      refine hK.out _ _ (grown_below hS hb1 hS.size) (fun hS' => ?_)
      replace bn := bn.below hb1 bn.lt
      clear hK K hS hb1; have hS := hS'; clear hS'; clear v2
      try simp only [Act.put, List.setIfInBounds_toArray, List.set_cons_zero, List.set_cons_succ]
      refine wpAnyH_ready (rs := [5]) (by kernel_rfl) (by simp) ?_
      refine held_cons rfl (fun K hK => ?_) AllReadyH.nil
      go_simp
      go_at_call 39
      refine (toFrame_any _ _).mono ?_
      rintro e v4 ⟨rfl, hb1⟩
      refine hK.out _ _ (grown_below hS hb1 hS.size) (fun hS' => ?_)
      replace bn := bn.below hb1 bn.lt
      clear hK K hS hb1; have hS := hS'; clear hS'; clear v3
      try simp only [Act.put, List.setIfInBounds_toArray, List.set_cons_zero, List.set_cons_succ]
      refine wpAnyH_ready (rs := [6]) (by kernel_rfl) (by simp) ?_
      refine held_cons rfl (fun K hK => ?_) AllReadyH.nil
      go_simp
      go_at_call 40
      refine (cI _).mono ?_
      rintro e v5 ⟨rfl, hb1⟩
      refine hK.out _ _ (grown_below hS hb1 hS.size) (fun hS' => ?_)
      replace bn := bn.below hb1 bn.lt
      clear hK K hS hb1; have hS := hS'; clear hS'; clear v4
      try simp only [Act.put, List.setIfInBounds_toArray, List.set_cons_zero, List.set_cons_succ]
      refine held_take (i := 7) (v := ?_) rfl (by kernel_rfl) (by kernel_rfl) (by kernel_rfl) (fun _ _ _ h => nomatch h.1) (Or.inl ⟨by rfl, ?_⟩) hS ?_
      rotate_left
      · intro w hSw; go_simp; (try with_reducible rfl)
      try simp only [Act.put, List.setIfInBounds_toArray, List.set_cons_zero, List.set_cons_succ]
      refine held_take (i := 8) (v := ?_) rfl (by kernel_rfl) (by kernel_rfl) (by kernel_rfl) (fun _ _ _ h => nomatch h.1) (Or.inl ⟨by rfl, ?_⟩) hS ?_
      rotate_left
      · intro w hSw; go_simp; (try with_reducible rfl)
      try simp only [Act.put, List.setIfInBounds_toArray, List.set_cons_zero, List.set_cons_succ]
      refine held_take (i := 9) (v := ?_) rfl (by kernel_rfl) (by kernel_rfl) (by kernel_rfl) (fun _ _ _ h => nomatch h.1) (Or.inl ⟨by rfl, ?_⟩) hS ?_
      rotate_left
      · intro w hSw; go_simp; (try with_reducible rfl)
      try simp only [Act.put, List.setIfInBounds_toArray, List.set_cons_zero, List.set_cons_succ]
      refine wpAnyH_ready (rs := [11]) (by kernel_rfl) (by simp) ?_
      refine held_cons rfl (fun K hK => ?_) AllReadyH.nil
      rw [if_pos (by rfl)]
      refine wp_store_fr 50 _ _ rfl g rfl bn rfl (by kernel_rfl) ?_
      refine hK.out _ _ (below_setRow hS hg _) (fun hS' => ?_)
      replace bn := bn.setRow (ifC (majC a b c) (majF a b c))
      clear hK K
      try simp only [Act.put, List.setIfInBounds_toArray, List.set_cons_zero, List.set_cons_succ]
      refine held_take (i := 12) (v := ?_) rfl (by kernel_rfl) (by kernel_rfl) (by kernel_rfl) (fun _ _ _ h => nomatch h.1) (Or.inl ⟨by rfl, ?_⟩) hS' ?_
      rotate_left
      · intro w hSw; go_simp; (try with_reducible rfl)
      try simp only [Act.put, List.setIfInBounds_toArray, List.set_cons_zero, List.set_cons_succ]
      refine wpAnyH_done (by kernel_rfl) ⟨rfl, g, ?_, bn, hS', hg⟩ _
      exact rfl
    refine held_cons rfl (fun K hK => ?_) AllReadyH.nil
    go_simp
    refine hK.out _ _ (hS.alloc hS.size _) (fun hS' => ?_)
    have bn := Blk.new v0 50 zeroF
    rw [FC_zero] at bn
    have hg : w1.heap.size ≤ v0.heap.size := hS.size
    clear hK K hS; have hS := hS'; clear hS'
    generalize v0.alloc (.cells #[.int .u16 0, .int .u16 0, .int .u16 0, .int .u16 0, .int .u16 0, .int .u16 0, .int .u16 0, .int .u16 0, .int .u16 0, .int .u16 0, .int .u16 0, .int .u16 0] 50) = v1 at hS bn ⊢
    generalize v0.heap.size = g at hg bn ⊢
    clear v0
    try simp only [Act.put, List.setIfInBounds_toArray, List.set_cons_zero, List.set_cons_succ]
    refine wpAnyH_ready (rs := [1]) (by kernel_rfl) (by simp) ?_
    refine held_cons rfl (fun K hK => ?_) AllReadyH.nil
    go_simp
    go_at_call 39
    refine (toFrame_any _ _).mono ?_
    rintro e v2 ⟨rfl, hb1⟩
    refine hK.out _ _ (grown_below hS hb1 hS.size) (fun hS' => ?_)
    replace bn := bn.below hb1 bn.lt
    clear hK K hS hb1; have hS := hS'; clear hS'; clear v1
    try simp only [Act.put, List.setIfInBounds_toArray, List.set_cons_zero, List.set_cons_succ]
    refine wpAnyH_ready (rs := [3]) (by kernel_rfl) (by simp) ?_
    refine held_cons rfl (fun K hK => ?_) AllReadyH.nil
    go_simp
    go_at_call 39
    refine (toFrame_any _ _).mono ?_
    rintro e v3 ⟨rfl, hb1⟩
    refine hK.out _ _ (grown_below hS hb1 hS.size) (fun hS' => ?_)
    replace bn := bn.below hb1 bn.lt
    clear hK K hS hb1; have hS := hS'; clear hS'; clear v2
    try simp only [Act.put, List.setIfInBounds_toArray, List.set_cons_zero, List.set_cons_succ]
    refine wpAnyH_ready (rs := [5]) (by kernel_rfl) (by simp) ?_
    refine held_cons rfl (fun K hK => ?_) AllReadyH.nil
    go_simp
    go_at_call 39
    refine (toFrame_any _ _).mono ?_
    rintro e v4 ⟨rfl, hb1⟩
    refine hK.out _ _ (grown_below hS hb1 hS.size) (fun hS' => ?_)
    replace bn := bn.below hb1 bn.lt
    clear hK K hS hb1; have hS := hS'; clear hS'; clear v3
    try simp only [Act.put, List.setIfInBounds_toArray, List.set_cons_zero, List.set_cons_succ]
    refine wpAnyH_ready (rs := [6]) (by kernel_rfl) (by simp) ?_
    refine held_cons rfl (fun K hK => ?_) AllReadyH.nil
    go_simp
    go_at_call 40
    refine (cI _).mono ?_
    rintro e v5 ⟨rfl, hb1⟩
    refine hK.out _ _ (grown_below hS hb1 hS.size) (fun hS' => ?_)
    replace bn := bn.below hb1 bn.lt
    clear hK K hS hb1; have hS := hS'; clear hS'; clear v4
    try simp only [Act.put, List.setIfInBounds_toArray, List.set_cons_zero, List.set_cons_succ]
    refine held_take (i := 7) (v := ?_) rfl (by kernel_rfl) (by kernel_rfl) (by kernel_rfl) (fun _ _ _ h => nomatch h.1) (Or.inl ⟨by rfl, ?_⟩) hS ?_
    rotate_left
    · intro w hSw; go_simp; (try with_reducible rfl)
    try simp only [Act.put, List.setIfInBounds_toArray, List.set_cons_zero, List.set_cons_succ]
    refine held_take (i := 8) (v := ?_) rfl (by kernel_rfl) (by kernel_rfl) (by kernel_rfl) (fun _ _ _ h => nomatch h.1) (Or.inl ⟨by rfl, ?_⟩) hS ?_
    rotate_left
    · intro w hSw; go_simp; (try with_reducible rfl)
    try simp only [Act.put, List.setIfInBounds_toArray, List.set_cons_zero, List.set_cons_succ]
    refine held_take (i := 9) (v := ?_) rfl (by kernel_rfl) (by kernel_rfl) (by kernel_rfl) (fun _ _ _ h => nomatch h.1) (Or.inl ⟨by rfl, ?_⟩) hS ?_
    rotate_left
    · intro w hSw; go_simp; (try with_reducible rfl)
    try simp only [Act.put, List.setIfInBounds_toArray, List.set_cons_zero, List.set_cons_succ]
    refine wpAnyH_ready (rs := [11]) (by kernel_rfl) (by simp) ?_
    refine held_cons rfl (fun K hK => ?_) AllReadyH.nil
    rw [if_pos (by rfl)]
    refine wp_store_fr 50 _ _ rfl g rfl bn rfl (by kernel_rfl) ?_
    refine hK.out _ _ (below_setRow hS hg _) (fun hS' => ?_)
    replace bn := bn.setRow (ifC (majC a b c) (majF a b c))
    clear hK K
    try simp only [Act.put, List.setIfInBounds_toArray, List.set_cons_zero, List.set_cons_succ]
    refine held_take (i := 12) (v := ?_) rfl (by kernel_rfl) (by kernel_rfl) (by kernel_rfl) (fun _ _ _ h => nomatch h.1) (Or.inl ⟨by rfl, ?_⟩) hS' ?_
    rotate_left
    · intro w hSw; go_simp; (try with_reducible rfl)
    try simp only [Act.put, List.setIfInBounds_toArray, List.set_cons_zero, List.set_cons_succ]
    refine wpAnyH_done (by kernel_rfl) ⟨rfl, g, ?_, bn, hS', hg⟩ _
    exact rfl
  rintro g2 w2 ⟨bg, hB, hg⟩
  replace ba := ba.below hB ba.lt
  replace bb := bb.below hB bb.lt
  replace bc := bc.below hB bc.lt
  replace bw := bw.below hB bw.lt
  replace h0 := grown_below h0 hB h0.size
  clear hB hg
  go_wp2_with (first | (refine wpList_load_fr rfl 50 48 _ rfl _ rfl (by first | exact bg | exact bw) Try.underlying50 (by kernel_rfl) ?_) | (go_at_call 41; refine (eqFrame_any _ _ _).mono ?_; rintro e w3 ⟨rfl, hb1⟩; replace h0 := grown_below h0 hb1 h0.size; clear hb1))
  go_ret
  exact ⟨rfl, h0⟩
end Go.Proofs.Ytennmnkjdchbhaa.wFnExactMajorityOf
