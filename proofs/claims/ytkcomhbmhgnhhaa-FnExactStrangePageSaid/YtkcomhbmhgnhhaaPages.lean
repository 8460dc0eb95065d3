/- Book.pages: the indices of all pages. -/
import Derived.Test.YtkcomhbmhgnhhaaRows
import Derived.Test.YtkcomhbmhgnhhaaIBook
namespace Go.Proofs.Ytkcomhbmhgnhhaa
set_option maxRecDepth 100000
open Go.RowKit
set_option linter.unusedVariables false
def pgI (n : Nat) : List Int := tab (fun i => (i : Int)) n
theorem pgI_len (n : Nat) : (pgI n).length = n := tab_length _ _
set_option maxHeartbeats 400000 in
theorem listBy0_i64 (n : Int) (fid : FuncId) (F : Nat → Int) (w : World) (hn1 : -1 ≤ n) (hn2 : n ≤ 1000000)
    (hcall : ∀ x w, (callFunc fid #[.int .i64 x]).run Try.prog w = .ok (.enter fid #[.int .i64 x]) w)
    (hbody : ∀ i : Nat, (i : Int) < n → ∀ w1, Below w.heap.size w w1 → Calls Try.prog fid #[.int .i64 i] w1 fun e w2 => e = .returned (.int .i64 (F i)) ∧ Below w1.heap.size w1 w2) :
    Calls Try.prog 112 #[.int .i64 n, .func (.func fid) #[] #[]] w (GivesV (eI .i64) 2 (tab F n.toNat) w) := by
  have hown := OwnL.nil_ (E := (eI .i64)) w w.heap.size 2
  have HB := Lib.hid hbody
  clear hbody
  go_enter Try.func112, Try.ntmps112
  go_wp2
  go_loopw [5, 8] (fun u i wr => ∃ k : Nat, k ≤ n.toNat ∧ i = .int .i64 k ∧ OwnL (eI .i64) wr w.heap.size 2 u (tab F k) ∧ Below w.heap.size w wr) (fun _ i _ => n.toNat - (intOf i).toNat)
  case atStart => exact ⟨0, by omega, rfl, hown, Below.refl _ _⟩
  case round =>
    clear hown
    obtain ⟨k, hk, rfl, hown, hb⟩ := hrel
    by_cases hlt : (k : Int) < n
    · go_wp2_with fail
      refine (HB.out k hlt wr hb).mono ?_
      rintro e w3 ⟨rfl, hb3⟩
      replace hb := grown_below hb hb3 hb.size
      replace hown := hown.below hb3
      clear hb3
      go_wp2_with (at_builtin; refine wpList_append_one rfl _ _ 47 rfl w.heap.size 2 Try.underlying47 infoI64 rfl (by decide) (by omega) (hown.alloc _) rfl (F k) rfl (range_new _ _ _) (by rw [tab_length]; omega) (by have := hb.size; simp; omega) ?_; intro v' w4 hown' hgrow)
      go_roundw
      case rel =>
        go_light
        refine ⟨k + 1, by omega, by go_num, ?_, (hown.alloc _).grown_below (hb.alloc hb.size _) hgrow (Nat.le_refl _) (by have := hb.size; simp; omega)⟩
        rw [tab_succ]; exact hown'
      case measure => simp [intOf]; omega
    · have hkn : k = n.toNat := by omega
      subst hkn
      go_wp2
      go_ret
      exact ⟨_, rfl, hown, hb⟩
theorem pages1_any (i : Nat) (w : World) (hi : i ≤ 1000000) : Calls Try.prog 117 #[.int .i64 i] w fun e w' => e = .returned (.int .i64 (i : Int)) ∧ Below w.heap.size w w' := by
  have k1 : IntKind.i64.wrap (i : Int) = (i : Int) := IntWalk.i64_in _ (by omega)
  go_enter Try.func117, Try.ntmps117
  go_wp2
  go_ret
  exact ⟨rfl, Below.refl _ _⟩
theorem pages_any (A : Option Addr) (n c : Nat) (w : World) (hn : n ≤ 1000000) : Calls Try.prog 60 #[.slice A n c] w (GivesV (eI .i64) 2 (pgI n) w) := by
  have cJ := listBy0_i64 (n : Int) 117 (fun i => (i : Int)) w (by omega) (by omega) (fun x w => by kernel_rfl) (fun i hi w1 hb => pages1_any i w1 (by omega))
  rw [Int.toNat_natCast] at cJ
  go_enter Try.func60, Try.ntmps60
  go_wp2_with (go_at_call 112; refine cJ.mono ?_; rintro e w2 ⟨u, rfl, hown, hb2⟩)
  go_ret
  exact ⟨_, rfl, hown, hb2⟩
end Go.Proofs.Ytkcomhbmhgnhhaa
