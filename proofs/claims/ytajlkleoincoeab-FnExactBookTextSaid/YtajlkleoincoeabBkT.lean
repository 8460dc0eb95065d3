/- TEXTS OF BOOKS: l02Text, BookText (spec); listBy of texts, Book.block, BookText (impl). -/
import Derived.Test.YtajlkleoincoeabRows
import Derived.Test.YtajlkleoincoeabFrT
import Derived.Test.YtajlkleoincoeabIBook
import Derived.Test.YtajlkleoincoeabSBook
import Derived.Test.YtajlkleoincoeabSJumps
namespace Go.Proofs.Ytajlkleoincoeab
set_option maxRecDepth 100000
open Go.RowKit
set_option linter.unusedVariables false
set_option linter.unusedSimpArgs false
def wdB (L : List (Nat → Nat)) : List (List UInt8) := L.map frT
theorem wdB_get {L : List (Nat → Nat)} {k : Nat} (h : k < L.length) : (wdB L)[k]? = some (frT (fAt L k)) := by
  unfold wdB; rw [List.getElem?_map, fAt_get h]; rfl
theorem wdB_len (L : List (Nat → Nat)) : (wdB L).length = L.length := List.length_map _
theorem frT_len (f : Nat → Nat) : (frT f).length = 156 := txK_len f 12
def bkT (L : List (Nat → Nat)) : List UInt8 := if okB L then joinW 10 (wdB L) else []
theorem wdB_word (L : List (Nat → Nat)) : ∀ x ∈ wdB L, x.length ≤ 156 := by
  intro x hx
  obtain ⟨f, _, rfl⟩ := List.mem_map.1 hx
  rw [frT_len]; exact Nat.le_refl _
set_option maxHeartbeats 2000000 in
theorem l02Text_any (v : Value) (L : List (Nat → Nat)) (w : World) (hlen : L.length ≤ 40) (hL : ltL L) (h : SlAt eFr w w.heap.size v L) :
    Calls Try.prog 41 #[v] w fun e w' => e = .returned (.string (bsOf (joinW 10 (wdB L)))) ∧ w' = w := by
  obtain ⟨A, c, rfl, h1, h2, hA⟩ := h
  unfold maxLen at h2
  have hjl := fun k => joinW_take_len 10 (wdB L) 156 (wdB_word L) k
  rw [wdB_len] at hjl
  have HJ := Lib.hid hjl
  clear hjl
  go_enter Try.func41, Try.ntmps41
  go_wp2
  go_loopw [3, 4] (fun s i wr => ∃ k : Nat, k ≤ L.length ∧ i = .int .i64 k ∧ s = .string (bsOf (joinW 10 ((wdB L).take k))) ∧ wr = w) (fun _ i _ => L.length - (intOf i).toNat)
  case atStart => exact ⟨0, by omega, rfl, rfl, rfl⟩
  case round =>
    obtain ⟨k, hk, rfl, rfl, hwr⟩ := hrel
    subst hwr
    by_cases hlt : k < L.length
    · obtain ⟨b1, o1, rfl, hb1, r1⟩ := hA (by omega)
      have g1 := range_part r1 (fAt_get hlt)
      rw [eFr_n] at g1
      have cT := textAt_any b1 (o1 + k * 12) (fAt L k) wr (fAt_lt hL k) g1
      have hg := wdB_get hlt
      have hfl := frT_len (fAt L k)
      have hj := HJ.out k
      clear hA r1 g1
      generalize frT (fAt L k) = W at *
      by_cases hk0 : k = 0
      · subst hk0
        simp only [Nat.zero_mul, Nat.add_zero] at cT
        have st := joinW_take0 10 (wdB L) _ hg
        have HST := Lib.hid st
        have e0 : joinW 10 ((wdB L).take 0) = [] := rfl
        rw [e0]
        have hs2 := fun w => str_add [] W (by simp; omega) w
        rw [List.nil_append] at hs2
        clear st hg hj e0 hfl
        go_wp2_with (go_at_call 34; refine cT.mono ?_; rintro e w' ⟨rfl, rfl⟩)
        go_roundw
        case rel =>
          go_light
          exact ⟨1, by omega, by go_num, by rw [HST.out], by trivial⟩
        case measure => simp [intOf]; omega
      · have st := joinW_take 10 (wdB L) k _ hg (by omega)
        have HST := Lib.hid st
        generalize joinW 10 ((wdB L).take k) = J at *
        have hs1 := fun w => str_add J [10] (by simp; omega) w
        have hs2 := fun w => str_add (J ++ [10]) W (by simp; omega) w
        have hs1' : ∀ w, (Op.stringOp .add (bsOf J) ⟨#[10]⟩).run Try.prog w = .ok (.string (bsOf (J ++ [10]))) w := hs1
        have hkp : (0 : Int) < (k : Int) := by omega
        clear st hg hj hs1 hk0 hfl
        go_wp2_with (go_at_call 34; refine cT.mono ?_; rintro e w' ⟨rfl, rfl⟩)
        go_roundw
        case rel =>
          go_light
          exact ⟨k + 1, by omega, by go_num, by rw [HST.out, List.append_assoc]; rfl, by trivial⟩
        case measure => simp [intOf]; omega
    · have hkl : k = L.length := by omega
      subst hkl
      have e1 : (wdB L).take L.length = wdB L := List.take_of_length_le (by rw [wdB_len]; exact Nat.le_refl _)
      rw [e1]
      clear hA e1
      go_wp2
      go_ret
      exact ⟨rfl, by trivial⟩
theorem specBookText_any (v : Value) (L : List (Nat → Nat)) (w : World) (hL : ltL L) (h : SlAt eFr w w.heap.size v L) :
    Calls Try.prog 15 #[v] w fun e w' => e = .returned (.string (bsOf (bkT L))) ∧ Below w.heap.size w w' := by
  have cO := specOk_any v L w h
  have cT := fun hl => l02Text_any v L w hl hL h
  obtain ⟨A, c, rfl⟩ := h.form
  cases ho : okB L with
  | false =>
    have e : bkT L = [] := by unfold bkT; rw [ho]; rfl
    rw [ho] at cO
    rw [e]
    clear cT h ho e
    go_enter Try.func15, Try.ntmps15
    go_wp2_with (go_at_call 40; refine cO.mono ?_; rintro e w' ⟨rfl, rfl⟩)
    go_ret
    exact ⟨rfl, Below.refl _ _⟩
  | true =>
    have e : bkT L = joinW 10 (wdB L) := by unfold bkT; rw [ho]; rfl
    rw [ho] at cO
    replace cT := cT (okB_len ho)
    rw [e]
    clear h ho e
    go_enter Try.func15, Try.ntmps15
    go_wp2_with (first | (go_at_call 40; refine cO.mono ?_; rintro e w' ⟨rfl, rfl⟩) | (go_at_call 41; refine cT.mono ?_; rintro e w' ⟨rfl, rfl⟩))
    go_ret
    exact ⟨rfl, Below.refl _ _⟩
set_option maxHeartbeats 400000 in
theorem listBy_str (n : Int) (fid : FuncId) (v : Value) (F : Nat → List UInt8) (w : World) (hn1 : -1 ≤ n) (hn2 : n ≤ 1000000)
    (hcall : ∀ x w, (callFunc fid #[v, .int .i64 x]).run Try.prog w = .ok (.enter fid #[v, .int .i64 x]) w)
    (hbody : ∀ i : Nat, (i : Int) < n → ∀ w1, Below w.heap.size w w1 → Calls Try.prog fid #[v, .int .i64 i] w1 fun e w2 => e = .returned (.string (bsOf (F i))) ∧ Below w1.heap.size w1 w2) :
    Calls Try.prog 45 #[.int .i64 n, .func (.func fid) #[v] #[]] w (GivesV eStr 9 (tab F n.toNat) w) := by
  have hown := OwnL.nil_ (E := eStr) w w.heap.size 9
  have HB := Lib.hid hbody
  clear hbody
  go_enter Try.func45, Try.ntmps45
  go_wp2
  go_loopw [5, 8] (fun u i wr => ∃ k : Nat, k ≤ n.toNat ∧ i = .int .i64 k ∧ OwnL eStr wr w.heap.size 9 u (tab F k) ∧ Below w.heap.size w wr) (fun _ i _ => n.toNat - (intOf i).toNat)
  case atStart => exact ⟨0, by omega, rfl, hown, Below.refl _ _⟩
  case round =>
    clear hown
    obtain ⟨k, hk, rfl, hown, hb⟩ := hrel
    by_cases hlt : (k : Int) < n
    · go_wp2_with fail
      refine (HB.out k hlt wr hb).mono ?_
      rintro e w3 ⟨rfl, hb3⟩
      replace hb := grown_below hb hb3 hb.size
      replace hown := hown.below hb3
      clear hb3
      go_wp2_with (at_builtin; refine wpList_append_one rfl _ _ 67 rfl w.heap.size 9 Try.underlying67 infoStr rfl (by decide) (by omega) (hown.alloc _) rfl (F k) rfl (range_new _ _ _) (by rw [tab_length]; omega) (by have := hb.size; simp; omega) ?_; intro v' w4 hown' hgrow)
      go_roundw
      case rel =>
        go_light
        refine ⟨k + 1, by omega, by go_num, ?_, (hown.alloc _).grown_below (hb.alloc hb.size _) hgrow (Nat.le_refl _) (by have := hb.size; simp; omega)⟩
        rw [tab_succ]; exact hown'
      case measure => simp [intOf]; omega
    · have hkn : k = n.toNat := by omega
      subst hkn
      go_wp2
      go_ret
      exact ⟨_, rfl, hown, hb⟩
theorem block_any (v : Value) (L : List (Nat → Nat)) (i : Nat) (w : World) (hL : ltL L) (ho : okF (fAt L i) = true) (hi : i < L.length) (hlen : L.length ≤ 1000000) (h : SlAt eFr w w.heap.size v L) :
    Calls Try.prog 46 #[v, .int .i64 i] w fun e w' => e = .returned (.string (bsOf (frT (fAt L i)))) ∧ Below w.heap.size w w' := by
  have cF := fun w => implFrameText_any (fAt L i) (fAt_lt hL i) w
  have e : ftT (fAt L i) = frT (fAt L i) := by unfold ftT; rw [ho]; rfl
  rw [e] at cF
  obtain ⟨A, c, rfl, h1, h2, hA⟩ := h
  obtain ⟨b1, o1, rfl, hb1, r1⟩ := hA (by omega)
  unfold maxLen at h2
  have g1 := range_part r1 (fAt_get hi)
  rw [eFr_n] at g1
  clear hA r1 ho e
  generalize frT (fAt L i) = W at *
  go_enter Try.func46, Try.ntmps46
  go_wp2_with (first | (refine wpList_load_at rfl 25 22 _ rfl _ _ rfl g1 Try.underlying25 (by kernel_rfl) ?_) | (go_at_call 10; refine (cF _).mono ?_; rintro e w1 ⟨rfl, hb⟩))
  go_ret
  exact ⟨rfl, hb⟩
theorem callBlock (v : Value) (x : Int) (w : World) : (callFunc 46 #[v, .int .i64 x]).run Try.prog w = .ok (.enter 46 #[v, .int .i64 x]) w := by kernel_rfl
theorem wdB_tab (L : List (Nat → Nat)) : tab (fun i => frT (fAt L i)) L.length = wdB L := by
  apply List.ext_getElem?
  intro i
  by_cases hi : i < L.length
  · rw [tab_get _ hi, wdB_get hi]
  · rw [List.getElem?_eq_none (by rw [tab_length]; omega), List.getElem?_eq_none (by rw [wdB_len]; omega)]
set_option maxHeartbeats 1000000 in
theorem implBookText_any (v : Value) (L : List (Nat → Nat)) (w : World) (hL : ltL L) (h : SlAt eFr w w.heap.size v L) :
    Calls Try.prog 17 #[v] w fun e w' => e = .returned (.string (bsOf (bkT L))) ∧ Below w.heap.size w w' := by
  have cV := implValidBook_any v L w hL h
  cases ho : okB L with
  | false =>
    have e : bkT L = [] := by unfold bkT; rw [ho]; rfl
    obtain ⟨A, c, rfl⟩ := h.form
    rw [ho] at cV
    rw [e]
    clear h ho e
    go_enter Try.func17, Try.ntmps17
    go_wp2_with (go_at_call 43; refine cV.mono ?_; rintro e w1 ⟨rfl, hb⟩)
    go_ret
    exact ⟨rfl, hb⟩
  | true =>
    have e : bkT L = joinW 10 (wdB L) := by unfold bkT; rw [ho]; rfl
    have hlen := okB_len ho
    have hok := (okB_iff.1 ho).2
    have cJ := fun (w1 : World) (hb1 : Below w.heap.size w w1) => listBy_str (L.length : Int) 46 v (fun i => frT (fAt L i)) w1 (by omega) (by omega) (callBlock v) (fun i hi w2 hb2 => block_any v L i w2 hL (hok i (by omega)) (by omega) (by omega) ((h.later hb1).later hb2))
    rw [Int.toNat_natCast, wdB_tab] at cJ
    have hjl := joinW_len 10 (wdB L) 156 (wdB_word L)
    rw [wdB_len] at hjl
    obtain ⟨A, c, rfl⟩ := h.form
    rw [ho] at cV
    rw [e]
    have CJ := Lib.hid cJ
    have HL := Lib.hid hjl
    have HW := Lib.hid (wdB_len L)
    clear h ho e hok cJ hjl
    go_enter Try.func17, Try.ntmps17
    go_wp2_with (first | (go_at_call 43; refine cV.mono ?_; rintro e w1 ⟨rfl, hb⟩) | (go_at_call 45; refine (CJ.out _ hb).mono ?_; rintro e w2 ⟨u, rfl, hown, hb2⟩; have cS := join_any u (wdB L) 10 w2 (by rw [HW.out]; omega) (by have := HL.out; omega) (hown.sl (by decide)); obtain ⟨A2, c2, rfl⟩ := hown.val) | (go_at_call 44; refine cS.mono ?_; rintro e w3 ⟨rfl, hb3⟩))
    go_ret
    exact ⟨rfl, grown_below hb (hb2.trans (hb3.mono hb2.size)) hb.size⟩
end Go.Proofs.Ytajlkleoincoeab
