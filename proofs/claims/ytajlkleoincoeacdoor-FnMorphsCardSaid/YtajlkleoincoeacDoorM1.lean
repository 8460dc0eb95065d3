/- FRAMES, PLAINLY: rows as numbers, dots as bits. No program is named. -/
namespace Go.Proofs.YtajlkleoincoeacDoor
/-- All rows are below 4096. -/
def okF (f : Nat → Nat) : Bool := (List.range 12).all fun y => decide (f y ≤ 4095)
theorem okF_iff {f : Nat → Nat} : okF f = true ↔ ∀ y, y < 12 → f y ≤ 4095 := by simp [okF]
theorem okF_false {f : Nat → Nat} : okF f = false ↔ ∃ y, y < 12 ∧ 4095 < f y := by
  rw [← Bool.not_eq_true, okF_iff]
  constructor
  · intro h
    apply Classical.byContradiction
    intro hn
    apply h
    intro y hy
    apply Classical.byContradiction
    intro hy2
    exact hn ⟨y, hy, by omega⟩
  · rintro ⟨y, hy, h⟩ hall
    have := hall y hy
    omega
def inB (n a b : Int) : Bool := decide (a ≤ n ∧ n ≤ b)
theorem inB_iff {n a b : Int} : inB n a b = true ↔ a ≤ n ∧ n ≤ b := by simp [inB]
theorem inB_false {n a b : Int} : inB n a b = false ↔ n < a ∨ b < n := by simp [inB]; omega
def plB (x y : Int) : Bool := decide (0 ≤ x ∧ x ≤ 11 ∧ 0 ≤ y ∧ y ≤ 11)
theorem plB_iff {x y : Int} : plB x y = true ↔ 0 ≤ x ∧ x ≤ 11 ∧ 0 ≤ y ∧ y ≤ 11 := by simp [plB]
theorem plB_false {x y : Int} : plB x y = false ↔ ¬ (0 ≤ x ∧ x ≤ 11 ∧ 0 ≤ y ∧ y ≤ 11) := by simp only [plB, decide_eq_false_iff_not]
def upd (f : Nat → Nat) (k n : Nat) : Nat → Nat := fun j => if j = k then n else f j
theorem upd_same (f : Nat → Nat) (k n : Nat) : upd f k n k = n := by simp [upd]
theorem upd_ne (f : Nat → Nat) {k j : Nat} (n : Nat) (h : j ≠ k) : upd f k n j = f j := by simp [upd, h]
def zeroF : Nat → Nat := fun _ => 0
def fullF : Nat → Nat := fun _ => 4095
def meetF (f g : Nat → Nat) : Nat → Nat := fun y => f y &&& g y
def joinF (f g : Nat → Nat) : Nat → Nat := fun y => f y ||| g y
def lessF (f g : Nat → Nat) : Nat → Nat := fun y => f y &&& (65535 - g y)
def unlikeF (f g : Nat → Nat) : Nat → Nat := fun y => f y ^^^ g y
def invF (f : Nat → Nat) : Nat → Nat := fun y => f y ^^^ 4095
theorem zeroF_lt (k : Nat) : zeroF k < 65536 := by simp [zeroF]
theorem fullF_lt (k : Nat) : fullF k < 65536 := by simp [fullF]
theorem invF_zero : invF zeroF = fullF := by funext y; simp [invF, zeroF, fullF]
theorem meetF_lt {f g : Nat → Nat} (hf : ∀ k, f k < 65536) (k : Nat) : meetF f g k < 65536 := Nat.lt_of_le_of_lt Nat.and_le_left (hf k)
theorem lessF_lt {f g : Nat → Nat} (hf : ∀ k, f k < 65536) (k : Nat) : lessF f g k < 65536 := Nat.lt_of_le_of_lt Nat.and_le_left (hf k)
theorem joinF_lt {f g : Nat → Nat} (hf : ∀ k, f k < 65536) (hg : ∀ k, g k < 65536) (k : Nat) : joinF f g k < 65536 := Nat.or_lt_two_pow (n := 16) (hf k) (hg k)
theorem unlikeF_lt {f g : Nat → Nat} (hf : ∀ k, f k < 65536) (hg : ∀ k, g k < 65536) (k : Nat) : unlikeF f g k < 65536 := Nat.xor_lt_two_pow (n := 16) (hf k) (hg k)
theorem invF_lt {f : Nat → Nat} (hf : ∀ k, f k < 65536) (k : Nat) : invF f k < 65536 := Nat.xor_lt_two_pow (n := 16) (hf k) (by decide)
/-- Two frames are equal: Go's '=='. -/
def eqF (f g : Nat → Nat) : Bool := (List.range 12).all fun y => f y == g y
theorem eqF_iff {f g : Nat → Nat} : eqF f g = true ↔ ∀ y, y < 12 → f y = g y := by simp [eqF]
theorem eqF_refl (f : Nat → Nat) : eqF f f = true := eqF_iff.2 fun _ _ => rfl
theorem eqF_false {f g : Nat → Nat} : eqF f g = false ↔ ∃ y, y < 12 ∧ f y ≠ g y := by
  rw [← Bool.not_eq_true, eqF_iff]
  constructor
  · intro h
    apply Classical.byContradiction
    intro hn
    apply h
    intro y hy
    apply Classical.byContradiction
    intro hy2
    exact hn ⟨y, hy, hy2⟩
  · rintro ⟨y, hy, h⟩ hall
    exact h (hall y hy)
/-- There is a dot. -/
def hasF (f : Nat → Nat) (x y : Int) : Bool := plB x y && (f y.toNat).testBit x.toNat
/-- A dot is put, if there is such a place. -/
def putF (f : Nat → Nat) (x y : Int) : Nat → Nat := if plB x y then upd f y.toNat (f y.toNat ||| 2 ^ x.toNat) else f
/-- The code of a frame and a place. -/
def askF (f : Nat → Nat) (x y : Int) : Int := if okF f then (if plB x y then 0 else 2) else 1
/-- A dot is taken away. -/
def clrF (f : Nat → Nat) (x y : Nat) : Nat → Nat := upd f y (f y &&& (65535 - 2 ^ x))
/-- WithDot's frame. -/
def withV (f : Nat → Nat) (x y : Int) (b : Bool) : Nat → Nat := if askF f x y = 0 then (if b then putF f x y else clrF f x.toNat y.toNat) else zeroF
def hasV (f : Nat → Nat) (x y : Int) : Bool := okF f && hasF f x y
theorem askF_cases (f : Nat → Nat) (x y : Int) : (okF f = false ∧ askF f x y = 1) ∨ (okF f = true ∧ plB x y = false ∧ askF f x y = 2) ∨ (okF f = true ∧ plB x y = true ∧ askF f x y = 0) := by
  unfold askF; cases okF f <;> cases plB x y <;> simp
/-- The code of a frame. -/
def okC (f : Nat → Nat) : Int := if okF f then 0 else 1
/-- The code of a frame and how far it is moved. -/
def wayC (f : Nat → Nat) (e s : Int) : Int := if okF f then (if inB e (-12) 12 && inB s (-12) 12 then 0 else 2) else 1
theorem wayC_cases (f : Nat → Nat) (e s : Int) : (okF f = false ∧ wayC f e s = 1) ∨ (okF f = true ∧ inB e (-12) 12 = false ∧ wayC f e s = 2) ∨ (okF f = true ∧ inB e (-12) 12 = true ∧ inB s (-12) 12 = false ∧ wayC f e s = 2) ∨ (okF f = true ∧ inB e (-12) 12 = true ∧ inB s (-12) 12 = true ∧ wayC f e s = 0) := by
  unfold wayC; cases okF f <;> cases inB e (-12) 12 <;> cases inB s (-12) 12 <;> simp
/-- The code of two frames. -/
def bothC (f g : Nat → Nat) : Int := if okF f && okF g then 0 else 1
theorem bothC_cases (f g : Nat → Nat) : (okF f = false ∧ bothC f g = 1) ∨ (okF f = true ∧ okF g = false ∧ bothC f g = 1) ∨ (okF f = true ∧ okF g = true ∧ bothC f g = 0) := by
  unfold bothC; cases okF f <;> cases okF g <;> simp
/-- A frame, if the code is 0. -/
def ifC (c : Int) (r : Nat → Nat) : Nat → Nat := if c = 0 then r else zeroF
/-- The dots among the first k places, row by row. -/
def dotsTo (f : Nat → Nat) (k : Nat) : List (Nat × Nat) := (List.range k).filterMap fun i => if (f (i / 12)).testBit (i % 12) then some (i % 12, i / 12) else none
def dots (f : Nat → Nat) : List (Nat × Nat) := dotsTo f 144
theorem dotsTo_zero (f : Nat → Nat) : dotsTo f 0 = [] := rfl
theorem dotsTo_succ (f : Nat → Nat) (k : Nat) : dotsTo f (k + 1) = dotsTo f k ++ if (f (k / 12)).testBit (k % 12) then [(k % 12, k / 12)] else [] := by
  unfold dotsTo
  rw [List.range_succ, List.filterMap_append]
  congr 1
  cases h : (f (k / 12)).testBit (k % 12) <;> simp [h]
theorem dotsTo_step (f : Nat → Nat) {x y : Nat} (hx : x < 12) : dotsTo f (12 * y + (x + 1)) = dotsTo f (12 * y + x) ++ if (f y).testBit x then [(x, y)] else [] := by
  rw [show 12 * y + (x + 1) = (12 * y + x) + 1 by omega, dotsTo_succ, show (12 * y + x) / 12 = y by omega, show (12 * y + x) % 12 = x by omega]
theorem dotsTo_length (f : Nat → Nat) (k : Nat) : (dotsTo f k).length ≤ k := by
  unfold dotsTo
  exact Nat.le_trans (List.length_filterMap_le _ _) (by simp)
theorem mem_dotsTo {f : Nat → Nat} {k : Nat} {d : Nat × Nat} : d ∈ dotsTo f k ↔ 12 * d.2 + d.1 < k ∧ d.1 < 12 ∧ (f d.2).testBit d.1 = true := by
  unfold dotsTo
  simp only [List.mem_filterMap, List.mem_range]
  constructor
  · rintro ⟨i, hi, h⟩
    split at h
    · rename_i hb
      cases h
      exact ⟨by show 12 * (i / 12) + i % 12 < k; omega, by show i % 12 < 12; omega, hb⟩
    · cases h
  · rintro ⟨h1, h2, h3⟩
    refine ⟨12 * d.2 + d.1, h1, ?_⟩
    rw [show (12 * d.2 + d.1) / 12 = d.2 by omega, show (12 * d.2 + d.1) % 12 = d.1 by omega, h3]
    simp
theorem mem_dots {f : Nat → Nat} {d : Nat × Nat} : d ∈ dots f ↔ d.1 < 12 ∧ d.2 < 12 ∧ (f d.2).testBit d.1 = true := by
  unfold dots
  rw [mem_dotsTo]
  constructor
  · rintro ⟨h1, h2, h3⟩; exact ⟨h2, by omega, h3⟩
  · rintro ⟨h1, h2, h3⟩; exact ⟨by omega, h1, h3⟩
end Go.Proofs.YtajlkleoincoeacDoor

/- HOW MANY DOTS, PLAINLY. No program is named. -/
namespace Go.Proofs.YtajlkleoincoeacDoor
/-- How many bits are set among the first m. -/
def popTo (n : Nat) : Nat → Nat
  | 0 => 0
  | m + 1 => popTo n m + if n.testBit m then 1 else 0
def pop (n : Nat) : Nat := popTo n 16
theorem popTo_le (n m : Nat) : popTo n m ≤ m := by
  induction m with
  | zero => simp [popTo]
  | succ m ih => unfold popTo; split <;> omega
theorem pop8 : ∀ n : Fin 256, pop n.val ≤ 8 := by decide +kernel
theorem popTo_congr {a b m : Nat} (h : ∀ i, i < m → a.testBit i = b.testBit i) : popTo a m = popTo b m := by
  induction m with
  | zero => rfl
  | succ m ih => unfold popTo; rw [ih (fun i hi => h i (by omega)), h m (by omega)]
theorem popTo_shift (n s m : Nat) : popTo n (s + m) = popTo n s + popTo (n / 2 ^ s) m := by
  induction m with
  | zero => simp [popTo]
  | succ m ih =>
    rw [← Nat.add_assoc]
    have h2 : (n / 2 ^ s).testBit m = n.testBit (s + m) := by rw [Nat.testBit_div_two_pow, Nat.add_comm]
    show popTo n (s + m) + (if n.testBit (s + m) then 1 else 0) = popTo n s + (popTo (n / 2 ^ s) m + if (n / 2 ^ s).testBit m then 1 else 0)
    rw [ih, h2]
    omega
theorem popTo_high {n s : Nat} (h : n < 2 ^ s) (m : Nat) : popTo n (s + m) = popTo n s := by
  rw [popTo_shift, Nat.div_eq_of_lt h]
  have : popTo 0 m = 0 := by
    induction m with
    | zero => rfl
    | succ m ih => unfold popTo; rw [ih]; simp
  omega
theorem pop_split {n : Nat} (h : n < 65536) : pop n = pop (n / 256) + pop (n % 256) := by
  unfold pop
  have h1 : popTo n 16 = popTo n 8 + popTo (n / 2 ^ 8) 8 := popTo_shift n 8 8
  have h2 : popTo (n / 256) 16 = popTo (n / 256) 8 := popTo_high (s := 8) (show n / 256 < 2 ^ 8 by omega) 8
  have h3 : popTo (n % 256) 16 = popTo (n % 256) 8 := popTo_high (s := 8) (show n % 256 < 2 ^ 8 by omega) 8
  have h4 : popTo (n % 256) 8 = popTo n 8 := popTo_congr (fun i hi => by
    rw [show 256 = 2 ^ 8 by rfl, Nat.testBit_mod_two_pow]; simp [hi])
  rw [h1, h2, h3, h4]
  show _ + popTo (n / 256) 8 = _
  omega
def popSum (f : Nat → Nat) : Nat → Nat
  | 0 => 0
  | y + 1 => popSum f y + pop (f y)
theorem popSum_le (f : Nat → Nat) (k : Nat) : popSum f k ≤ 16 * k := by
  induction k with
  | zero => simp [popSum]
  | succ k ih => have := popTo_le (f k) 16; unfold popSum pop; omega
theorem dotsTo_row (f : Nat → Nat) (y : Nat) : ∀ m, m ≤ 12 → (dotsTo f (12 * y + m)).length = (dotsTo f (12 * y)).length + popTo (f y) m
  | 0, _ => by simp [popTo]
  | m + 1, h => by
    rw [dotsTo_step f (by omega), List.length_append, dotsTo_row f y m (by omega)]
    show _ = _ + (popTo (f y) m + if (f y).testBit m then 1 else 0)
    split <;> simp <;> omega
theorem length_dotsTo (f : Nat → Nat) (h : okF f = true) : ∀ y, y ≤ 12 → (dotsTo f (12 * y)).length = popSum f y
  | 0, _ => rfl
  | y + 1, hy => by
    have h1 := okF_iff.1 h y (by omega)
    have h2 : pop (f y) = popTo (f y) 12 := popTo_high (s := 12) (show f y < 2 ^ 12 by omega) 4
    rw [show 12 * (y + 1) = 12 * y + 12 by omega, dotsTo_row f y 12 (by omega), length_dotsTo f h y (by omega)]
    show popSum f y + popTo (f y) 12 = popSum f y + pop (f y)
    rw [h2]
theorem length_dots (f : Nat → Nat) (h : okF f = true) : (dots f).length = popSum f 12 := length_dotsTo f h 12 (by omega)
end Go.Proofs.YtajlkleoincoeacDoor

/- BOOKS, PLAINLY: lists of frames, their jumps, sums, reversals. No program is named. -/
namespace Go.Proofs.YtajlkleoincoeacDoor
set_option linter.unusedVariables false
def fAt (L : List (Nat → Nat)) (i : Nat) : Nat → Nat := L.getD i zeroF
theorem fAt_get {L : List (Nat → Nat)} {i : Nat} (h : i < L.length) : L[i]? = some (fAt L i) := by simp [fAt, h]
theorem fAt_of {L : List (Nat → Nat)} {i : Nat} {f : Nat → Nat} (h : L[i]? = some f) : fAt L i = f := by simp [fAt, List.getD_eq_getElem?_getD, h]
def ltL (L : List (Nat → Nat)) : Prop := ∀ f ∈ L, ∀ k, f k < 65536
theorem fAt_lt {L : List (Nat → Nat)} (h : ltL L) (i : Nat) : ∀ k, fAt L i k < 65536 := by
  by_cases hi : i < L.length
  · exact h _ (List.mem_of_getElem? (fAt_get hi))
  · have : fAt L i = zeroF := by simp [fAt, List.getD_eq_getElem?_getD, List.getElem?_eq_none (Nat.le_of_not_lt hi)]
    rw [this]; exact zeroF_lt
def okB (L : List (Nat → Nat)) : Bool := decide (L.length ≤ 40) && L.all okF
theorem okB_iff {L : List (Nat → Nat)} : okB L = true ↔ L.length ≤ 40 ∧ ∀ i, i < L.length → okF (fAt L i) = true := by
  simp only [okB, Bool.and_eq_true, decide_eq_true_eq, List.all_eq_true]
  constructor
  · rintro ⟨h1, h2⟩; exact ⟨h1, fun i hi => h2 _ (List.mem_of_getElem? (fAt_get hi))⟩
  · rintro ⟨h1, h2⟩
    refine ⟨h1, fun f hf => ?_⟩
    obtain ⟨i, hi⟩ := List.getElem?_of_mem hf
    have hlt := (List.getElem?_eq_some_iff.1 hi).1
    have := h2 i hlt
    rwa [fAt_of hi] at this
theorem okB_false_len {L : List (Nat → Nat)} (h : 40 < L.length) : okB L = false := by
  rw [← Bool.not_eq_true, okB_iff]; omega
theorem okB_false_at {L : List (Nat → Nat)} {i : Nat} (hi : i < L.length) (h : okF (fAt L i) = false) : okB L = false := by
  rw [← Bool.not_eq_true, okB_iff]
  rintro ⟨_, h2⟩
  have := h2 i hi
  rw [h] at this; cases this
theorem okB_false_iff {L : List (Nat → Nat)} : okB L = false ↔ 40 < L.length ∨ ∃ i, i < L.length ∧ okF (fAt L i) = false := by
  constructor
  · intro h
    apply Classical.byContradiction
    intro hn
    have : okB L = true := okB_iff.2 ⟨by omega, fun i hi => by
      cases ho : okF (fAt L i) with
      | true => rfl
      | false => exact absurd (Or.inr ⟨i, hi, ho⟩) hn⟩
    rw [this] at h; cases h
  · rintro (h | ⟨i, hi, h⟩)
    · exact okB_false_len h
    · exact okB_false_at hi h
/-- The code of a book. -/
def okBC (L : List (Nat → Nat)) : Int := if okB L then 0 else 1
theorem okBC_cases (L : List (Nat → Nat)) : (okB L = false ∧ okBC L = 1) ∨ (okB L = true ∧ okBC L = 0) := by unfold okBC; cases okB L <;> simp
/-- A list, if the code is 0. -/
def ifL {α : Type} (c : Int) (l : List α) : List α := if c = 0 then l else []
theorem ifL0 {α : Type} (l : List α) : ifL 0 l = l := rfl
theorem ifL1 {α : Type} {c : Int} (l : List α) (h : c ≠ 0) : ifL c l = [] := if_neg h
def ifI (c : Int) (n : Int) : Int := if c = 0 then n else 0
theorem ifI0 (n : Int) : ifI 0 n = n := rfl
theorem ifI1 {c : Int} (n : Int) (h : c ≠ 0) : ifI c n = 0 := if_neg h
/-- By how many dots two frames differ. -/
def difN (f g : Nat → Nat) : Nat := popSum (unlikeF f g) 12
theorem difN_le (f g : Nat → Nat) : difN f g ≤ 192 := popSum_le _ 12
/-- The jump from a page to the page behind it; behind the last page is the first one. -/
def jmp (L : List (Nat → Nat)) (i : Nat) : Int := difN (fAt L i) (fAt L ((i + 1) % L.length))
theorem jmp_bounds (L : List (Nat → Nat)) (i : Nat) : 0 ≤ jmp L i ∧ jmp L i ≤ 192 := by
  have := difN_le (fAt L i) (fAt L ((i + 1) % L.length)); unfold jmp; omega
theorem jmp_in {L : List (Nat → Nat)} {i : Nat} (h : i + 1 < L.length) : jmp L i = difN (fAt L i) (fAt L (i + 1)) := by unfold jmp; rw [Nat.mod_eq_of_lt h]
theorem jmp_last {L : List (Nat → Nat)} (h : 0 < L.length) : jmp L (L.length - 1) = difN (fAt L (L.length - 1)) (fAt L 0) := by
  unfold jmp; rw [show L.length - 1 + 1 = L.length by omega, Nat.mod_self]
/-- The values of a function at 0, 1 .. n - 1. -/
def tab {α : Type} (f : Nat → α) (n : Nat) : List α := (List.range n).map f
theorem tab_zero {α : Type} (f : Nat → α) : tab f 0 = [] := rfl
theorem tab_succ {α : Type} (f : Nat → α) (n : Nat) : tab f (n + 1) = tab f n ++ [f n] := by simp [tab, List.range_succ]
theorem tab_length {α : Type} (f : Nat → α) (n : Nat) : (tab f n).length = n := by simp [tab]
theorem tab_get {α : Type} (f : Nat → α) {n i : Nat} (h : i < n) : (tab f n)[i]? = some (f i) := by simp [tab, h]
theorem tab_congr {α : Type} {f g : Nat → α} {n : Nat} (h : ∀ i, i < n → f i = g i) : tab f n = tab g n := by
  unfold tab; exact List.map_congr_left fun i hi => h i (List.mem_range.1 hi)
theorem tab_fAt (L : List (Nat → Nat)) : tab (fAt L) L.length = L := by
  apply List.ext_getElem?
  intro i
  by_cases hi : i < L.length
  · rw [tab_get _ hi, fAt_get hi]
  · rw [List.getElem?_eq_none (by rw [tab_length]; omega), List.getElem?_eq_none (by omega)]
def jumpsL (L : List (Nat → Nat)) : List Int := tab (jmp L) (L.length - 1)
def sumI : List Int → Int
  | [] => 0
  | x :: l => x + sumI l
theorem sumI_append (l m : List Int) : sumI (l ++ m) = sumI l + sumI m := by
  induction l with
  | nil => simp [sumI]
  | cons x l ih => simp only [List.cons_append, sumI, ih]; omega
theorem sumI_bounds {l : List Int} {n : Int} (hn : 0 ≤ n) (h : ∀ x ∈ l, 0 ≤ x ∧ x ≤ n) : 0 ≤ sumI l ∧ sumI l ≤ n * l.length := by
  induction l with
  | nil => simp [sumI]
  | cons x l ih =>
    have h1 := ih (fun y hy => h y (by simp [hy]))
    have h2 := h x (by simp)
    simp only [sumI, List.length_cons, Int.natCast_add, Int.mul_add]
    omega
theorem sumI_take (l : List Int) {k : Nat} {x : Int} (h : l[k]? = some x) : sumI (l.take (k + 1)) = sumI (l.take k) + x := by
  rw [List.take_add_one, h, sumI_append]; simp [sumI]
theorem loop_sum (L : List (Nat → Nat)) : sumI (tab (jmp L) L.length) = if L.length = 0 then 0 else sumI (jumpsL L) + difN (fAt L (L.length - 1)) (fAt L 0) := by
  by_cases h : L.length = 0
  · rw [if_pos h, h]; rfl
  · rw [if_neg h, ← jmp_last (by omega)]
    obtain ⟨m, hm⟩ : ∃ m, L.length = m + 1 := ⟨L.length - 1, by omega⟩
    unfold jumpsL
    rw [hm, tab_succ, sumI_append]
    simp [sumI]
/-- Two books are equal. -/
def eqB (L M : List (Nat → Nat)) : Bool := L.length == M.length && (List.range L.length).all fun i => eqF (fAt L i) (fAt M i)
theorem eqB_refl (L : List (Nat → Nat)) : eqB L L = true := by simp [eqB, eqF_refl]
theorem eqB_len {L M : List (Nat → Nat)} (h : L.length ≠ M.length) : eqB L M = false := by simp [eqB, h]
theorem eqB_iff {L M : List (Nat → Nat)} (h : L.length = M.length) : eqB L M = true ↔ ∀ i, i < L.length → eqF (fAt L i) (fAt M i) = true := by simp [eqB, h]
theorem eqB_false {L M : List (Nat → Nat)} {i : Nat} (hi : i < L.length) (h : eqF (fAt L i) (fAt M i) = false) : eqB L M = false := by
  by_cases hl : L.length = M.length
  · rw [← Bool.not_eq_true, eqB_iff hl]
    intro hh
    have := hh i hi
    rw [h] at this; cases this
  · exact eqB_len hl
end Go.Proofs.YtajlkleoincoeacDoor

/- MORPHS, PLAINLY: the first dots of a frame, as many as are told. No program is named. -/
namespace Go.Proofs.YtajlkleoincoeacDoor
/-- How many dots are among the first k places. -/
def rk (u : Nat → Nat) (k : Nat) : Nat := (dotsTo u k).length
theorem rk_succ (u : Nat → Nat) (k : Nat) : rk u (k + 1) = rk u k + if (u (k / 12)).testBit (k % 12) then 1 else 0 := by
  unfold rk
  rw [dotsTo_succ, List.length_append]
  split <;> simp
theorem rk_le (u : Nat → Nat) (k : Nat) : rk u k ≤ k := dotsTo_length u k
/-- The frame with the first n dots of u, as far as the first k places tell. -/
def mk (u : Nat → Nat) (n : Nat) : Nat → Nat → Nat
  | 0 => zeroF
  | k + 1 => if rk u k < n ∧ (u (k / 12)).testBit (k % 12) = true then upd (mk u n k) (k / 12) (mk u n k (k / 12) ||| 2 ^ (k % 12)) else mk u n k
theorem mk_zero (u : Nat → Nat) (n : Nat) : mk u n 0 = zeroF := rfl
theorem mk_yes {u : Nat → Nat} {n k : Nat} (h : rk u k < n) (hb : (u (k / 12)).testBit (k % 12) = true) : mk u n (k + 1) = upd (mk u n k) (k / 12) (mk u n k (k / 12) ||| 2 ^ (k % 12)) := if_pos ⟨h, hb⟩
theorem mk_no {u : Nat → Nat} {n k : Nat} (h : n ≤ rk u k ∨ (u (k / 12)).testBit (k % 12) = false) : mk u n (k + 1) = mk u n k := if_neg fun ⟨a, b⟩ => by
  rcases h with h | h
  · omega
  · rw [h] at b; cases b
theorem rk_mono (u : Nat → Nat) (k : Nat) : ∀ j, rk u k ≤ rk u (k + j)
  | 0 => Nat.le_refl _
  | j + 1 => by rw [← Nat.add_assoc, rk_succ]; have := rk_mono u k j; omega
theorem mk_stop {u : Nat → Nat} {n k : Nat} (h : n ≤ rk u k) : ∀ j, mk u n (k + j) = mk u n k
  | 0 => rfl
  | j + 1 => by
    rw [← Nat.add_assoc, mk_no (.inl (by have := rk_mono u k j; omega)), mk_stop h j]
theorem mk_stop_to {u : Nat → Nat} {n k m : Nat} (h : n ≤ rk u k) (hm : k ≤ m) : mk u n m = mk u n k := by
  have := mk_stop h (m - k)
  rwa [show k + (m - k) = m by omega] at this
theorem mk_lt (u : Nat → Nat) (n : Nat) : ∀ k y, mk u n k y < 4096
  | 0, _ => by simp [mk, zeroF]
  | k + 1, y => by
    unfold mk
    split
    · unfold upd
      split
      · exact Nat.or_lt_two_pow (n := 12) (mk_lt u n k _) (Nat.pow_lt_pow_right (by decide) (Nat.mod_lt _ (by decide)))
      · exact mk_lt u n k y
    · exact mk_lt u n k y
/-- Places that have not been asked yet. -/
theorem mk_top (u : Nat → Nat) (n : Nat) : ∀ k y x, x < 12 → k ≤ 12 * y + x → (mk u n k y).testBit x = false
  | 0, _, _, _, _ => by simp [mk, zeroF]
  | k + 1, y, x, hx, h => by
    have ih := mk_top u n k y x hx (by omega)
    unfold mk
    split
    · unfold upd
      split
      · rename_i hy
        subst hy
        rw [Nat.testBit_or, ih, Nat.testBit_two_pow]
        simp; omega
      · exact ih
    · exact ih
theorem or_xor {a x : Nat} (h : a.testBit x = false) : a ||| 2 ^ x = a ^^^ 2 ^ x := by
  apply Nat.eq_of_testBit_eq
  intro i
  rw [Nat.testBit_or, Nat.testBit_xor, Nat.testBit_two_pow]
  by_cases e : x = i
  · subst e; simp [h]
  · simp [e]
theorem and_pow (a x : Nat) : a &&& 2 ^ x = if a.testBit x then 2 ^ x else 0 := by
  apply Nat.eq_of_testBit_eq
  intro i
  rw [Nat.testBit_and, Nat.testBit_two_pow]
  by_cases e : x = i
  · subst e; cases h : a.testBit x <;> simp
  · cases h : a.testBit x <;> simp [e]
/-- A step of both loops, in the row y and the column x. -/
theorem mk_row {u : Nat → Nat} {n y x : Nat} (hx : x < 12) (h : rk u (12 * y + x) < n) : mk u n (12 * y + (x + 1)) = upd (mk u n (12 * y + x)) y (mk u n (12 * y + x) y ||| (u y &&& 2 ^ x)) := by
  have e1 : (12 * y + x) / 12 = y := by omega
  have e2 : (12 * y + x) % 12 = x := by omega
  rw [← Nat.add_assoc]
  cases hb : (u y).testBit x with
  | true => rw [mk_yes h (by rw [e1, e2]; exact hb), e1, e2, and_pow, if_pos hb]
  | false =>
    rw [mk_no (.inr (by rw [e1, e2]; exact hb)), and_pow, hb]
    funext j
    unfold upd
    split
    · rename_i e; subst e; simp
    · rfl
theorem rk_row {u : Nat → Nat} {y x : Nat} (hx : x < 12) : rk u (12 * y + (x + 1)) = rk u (12 * y + x) + if (u y).testBit x then 1 else 0 := by
  rw [← Nat.add_assoc, rk_succ, show (12 * y + x) / 12 = y by omega, show (12 * y + x) % 12 = x by omega]
theorem mk_rowN {u : Nat → Nat} {n y x : Nat} (hx : x < 12) (h : n ≤ rk u (12 * y + x) ∨ (u y).testBit x = false) : mk u n (12 * y + (x + 1)) = mk u n (12 * y + x) := by
  rw [← Nat.add_assoc]
  refine mk_no ?_
  rw [show (12 * y + x) / 12 = y by omega, show (12 * y + x) % 12 = x by omega]
  exact h
theorem mk_rowY {u : Nat → Nat} {n y x : Nat} (hx : x < 12) (h : rk u (12 * y + x) < n) (hb : (u y).testBit x = true) : mk u n (12 * y + (x + 1)) = upd (mk u n (12 * y + x)) y (mk u n (12 * y + x) y ^^^ 2 ^ x) := by
  rw [mk_row hx h, and_pow, if_pos hb, or_xor (mk_top u n _ y x hx (Nat.le_refl _))]
/-- The frame between two ones, behind so many places. -/
def morK (a b : Nat → Nat) (n k : Nat) : Nat → Nat := unlikeF a (mk (unlikeF a b) n k)
def morN (a b : Nat → Nat) (s t : Nat) : Nat := difN a b * s / t
def morF (a b : Nat → Nat) (s t : Nat) : Nat → Nat := morK a b (morN a b s t) 144
theorem morK_zero (a b : Nat → Nat) (n : Nat) : morK a b n 0 = a := by
  funext y; simp [morK, unlikeF, mk, zeroF]
theorem morK_bit {a b : Nat → Nat} {n y x : Nat} (hx : x < 12) : (morK a b n (12 * y + x) y).testBit x = (a y).testBit x := by
  unfold morK unlikeF
  rw [Nat.testBit_xor]
  have := mk_top (fun y => a y ^^^ b y) n (12 * y + x) y x hx (Nat.le_refl _)
  rw [this, Bool.xor_false]
theorem morK_yes {a b : Nat → Nat} {n y x : Nat} (hx : x < 12) (h : rk (unlikeF a b) (12 * y + x) < n) (hb : (unlikeF a b y).testBit x = true) : morK a b n (12 * y + (x + 1)) = upd (morK a b n (12 * y + x)) y (morK a b n (12 * y + x) y ^^^ 2 ^ x) := by
  unfold morK
  rw [mk_rowY hx h hb]
  funext j
  unfold unlikeF upd
  split
  · rename_i e; subst e; rw [Nat.xor_assoc]
  · rfl
theorem morK_no {a b : Nat → Nat} {n y x : Nat} (hx : x < 12) (h : n ≤ rk (unlikeF a b) (12 * y + x) ∨ (unlikeF a b y).testBit x = false) : morK a b n (12 * y + (x + 1)) = morK a b n (12 * y + x) := by
  unfold morK; rw [mk_rowN hx h]
theorem morK_stop {a b : Nat → Nat} {n k m : Nat} (h : n ≤ rk (unlikeF a b) k) (hm : k ≤ m) : morK a b n m = morK a b n k := by
  unfold morK; rw [mk_stop_to h hm]
theorem morK_lt {a b : Nat → Nat} (ha : ∀ k, a k < 65536) (n m k : Nat) : morK a b n m k < 65536 := unlikeF_lt ha (fun k => Nat.lt_trans (mk_lt _ _ _ k) (by decide)) k
theorem morK_ok {a b : Nat → Nat} (ha : okF a = true) (n m : Nat) : okF (morK a b n m) = true := okF_iff.2 fun y hy => by
  have h1 := okF_iff.1 ha y hy
  have h2 := mk_lt (unlikeF a b) n m y
  have : a y ^^^ mk (unlikeF a b) n m y < 2 ^ 12 := Nat.xor_lt_two_pow (by omega) h2
  show a y ^^^ mk (unlikeF a b) n m y ≤ 4095
  omega
theorem morN_le {a b : Nat → Nat} {s t : Nat} (hs : s ≤ t) : morN a b s t ≤ difN a b := by
  unfold morN
  rcases Nat.eq_zero_or_pos t with h | h
  · subst h; simp
  · exact Nat.div_le_of_le_mul (by rw [Nat.mul_comm t]; exact Nat.mul_le_mul_left _ hs)
end Go.Proofs.YtajlkleoincoeacDoor
