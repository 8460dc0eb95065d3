/- impl.listBy at a closure of two captured variables. -/
import Derived.Test.YtkcomhbmhgnhhaaRows
import Derived.Test.YtkcomhbmhgnhhaaIBook
namespace Go.Proofs.Ytkcomhbmhgnhhaa
set_option maxRecDepth 100000
open Go.RowKit
set_option linter.unusedVariables false
set_option linter.unusedSimpArgs false
set_option maxHeartbeats 400000 in
theorem listByC_i64 (n : Int) (fid : FuncId) (c1 c2 : Value) (F : Nat → Int) (w : World) (hn1 : -1 ≤ n) (hn2 : n ≤ 1000000)
    (hcall : ∀ x w, (callFunc fid #[.int .i64 x, c1, c2]).run Try.prog w = .ok (.enter fid #[.int .i64 x, c1, c2]) w)
    (hbody : ∀ i : Nat, (i : Int) < n → ∀ w1, Below w.heap.size w w1 → Calls Try.prog fid #[.int .i64 i, c1, c2] w1 fun e w2 => e = .returned (.int .i64 (F i)) ∧ Below w1.heap.size w1 w2) :
    Calls Try.prog 112 #[.int .i64 n, .func (.func fid) #[] #[c1, c2]] w (GivesV (eI .i64) 2 (tab F n.toNat) w) := by
  have hown := OwnL.nil_ (E := (eI .i64)) w w.heap.size 2
  have HB := Lib.hid hbody
  clear hbody
  go_enter Try.func112, Try.ntmps112
  go_wp2
  go_loopw [5, 8] (fun u i wr => ∃ k : Nat, k ≤ n.toNat ∧ i = .int .i64 k ∧ OwnL (eI .i64) wr w.heap.size 2 u (tab F k) ∧ Below w.heap.size w wr) (fun _ i _ => n.toNat - (intOf i).toNat)
  case atStart => exact ⟨0, by omega, rfl, hown, Below.refl _ _⟩
  case round =>
    clear hown
    obtain ⟨k, hk, rfl, hown, hb⟩ := hrel
    by_cases hlt : (k : Int) < n
    · go_wp2_with fail
      refine (HB.out k hlt wr hb).mono ?_
      rintro e w3 ⟨rfl, hb3⟩
      replace hb := grown_below hb hb3 hb.size
      replace hown := hown.below hb3
      clear hb3
      go_wp2_with (at_builtin; refine wpList_append_one rfl _ _ 47 rfl w.heap.size 2 Try.underlying47 infoI64 rfl (by decide) (by omega) (hown.alloc _) rfl (F k) rfl (range_new _ _ _) (by rw [tab_length]; omega) (by have := hb.size; simp; omega) ?_; intro v' w4 hown' hgrow)
      go_roundw
      case rel =>
        go_light
        refine ⟨k + 1, by omega, by go_num, ?_, (hown.alloc _).grown_below (hb.alloc hb.size _) hgrow (Nat.le_refl _) (by have := hb.size; simp; omega)⟩
        rw [tab_succ]; exact hown'
      case measure => simp [intOf]; omega
    · have hkn : k = n.toNat := by omega
      subst hkn
      go_wp2
      go_ret
      exact ⟨_, rfl, hown, hb⟩
end Go.Proofs.Ytkcomhbmhgnhhaa
