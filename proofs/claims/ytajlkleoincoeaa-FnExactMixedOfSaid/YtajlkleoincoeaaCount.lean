/- The number of dots: impl's Frame.count; spec's l01Count is the length of the list of dots. -/
import Derived.Test.YtajlkleoincoeaaRows
import Derived.Test.YtajlkleoincoeaaOnes
import Derived.Test.YtajlkleoincoeaaDots
import Derived.Test.YtajlkleoincoeaaIValid
namespace Go.Proofs.Ytajlkleoincoeaa
set_option maxRecDepth 100000
open Go.RowKit
set_option maxHeartbeats 400000 in
theorem count_any (f : Nat → Nat) (hf : ∀ k, f k < 65536) (w : World) :
    Calls Try.prog 154 #[.agg (FC f)] w fun e w' => e = .returned (.int .i64 (popSum f 12)) ∧ Below w.heap.size w w' := by
  obtain ⟨i0, hi0⟩ : ∃ i, Try.prog.info? 22 = some i := ⟨_, rfl⟩
  have b1 := Blk.new w 30 f
  have h0 := (Below.refl w.heap.size w).alloc (Nat.le_refl _) (.cells (FC f) 30)
  go_enter Try.func154, Try.ntmps154
  go_wp2_with (refine wpList_load_fr rfl 30 22 _ rfl _ rfl b1 Try.underlying30 (by kernel_rfl) ?_)
  generalize w.alloc (.cells (FC f) 30) = w1 at *
  clear b1
  go_loopw [3, 7] (fun s i wr => ∃ k : Nat, k ≤ 12 ∧ i = .int .i64 k ∧ s = .int .i64 (popSum f k) ∧ Below w.heap.size w wr) (fun _ i _ => 12 - (intOf i).toNat)
  case atStart => exact ⟨0, by omega, rfl, rfl, h0⟩
  case round =>
    obtain ⟨k, hk, rfl, rfl, hb⟩ := hrel
    by_cases hlt : k < 12
    · have ix := fun w => run_index_fr (P := Try.prog) w f hlt Try.underlying30 (by kernel_rfl) hi0 (by kernel_rfl)
      have hs := popSum_le f k
      have hp := popTo_le (f k) 16
      have hp' : pop (f k) ≤ 16 := hp
      clear hi0 hp
      go_wp2_with (go_at_call 185; refine (ones16_any _ (hf k) _).mono ?_; rintro e w2 ⟨rfl, nk, rfl⟩)
      go_roundw
      case rel =>
        go_light
        refine ⟨k + 1, by omega, by go_num, ?_, below_drewN hb _⟩
        show Value.int .i64 ((popSum f k : Int) + (pop (f k) : Int)) = Value.int .i64 ((popSum f k + pop (f k) : Nat) : Int)
        congr 1
      case measure => simp [intOf]; omega
    · have h12 : k = 12 := by omega
      subst h12
      go_wp2
      go_ret
      exact ⟨rfl, hb⟩
set_option maxHeartbeats 400000 in
theorem l01Count_any (B : Nat) (f : Nat → Nat) (w : World) (hf : ∀ k, f k < 65536) (hB : Blk w B 30 f) :
    Calls Try.prog 184 #[.pointer (some ⟨B, 0, none⟩)] w fun e w' => e = .returned (.int .i64 (dots f).length) ∧ Below w.heap.size w w' := by
  go_enter Try.func184, Try.ntmps184
  go_wp2_with (go_at_call 190; refine (dots_any B f _ hf hB).mono ?_; rintro e w1 ⟨v, rfl, hown, hb⟩; obtain ⟨_, ⟨rfl, hl⟩ | ⟨g, cap, cur, rfl, _⟩⟩ := hown)
  · go_ret
    exact ⟨ret_int (by omega), hb⟩
  · go_ret
    exact ⟨rfl, hb⟩
/-- CountDots's number. -/
def cntV (f : Nat → Nat) : Int := if okF f then popSum f 12 else 0
end Go.Proofs.Ytajlkleoincoeaa
