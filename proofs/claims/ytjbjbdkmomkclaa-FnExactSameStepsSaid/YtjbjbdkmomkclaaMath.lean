/- FRAMES, PLAINLY: rows as numbers, dots as bits. No program is named. -/
namespace Go.Proofs.Ytjbjbdkmomkclaa
/-- All rows are below 4096. -/
def okF (f : Nat → Nat) : Bool := (List.range 12).all fun y => decide (f y ≤ 4095)
theorem okF_iff {f : Nat → Nat} : okF f = true ↔ ∀ y, y < 12 → f y ≤ 4095 := by simp [okF]
theorem okF_false {f : Nat → Nat} : okF f = false ↔ ∃ y, y < 12 ∧ 4095 < f y := by
  rw [← Bool.not_eq_true, okF_iff]
  constructor
  · intro h
    apply Classical.byContradiction
    intro hn
    apply h
    intro y hy
    apply Classical.byContradiction
    intro hy2
    exact hn ⟨y, hy, by omega⟩
  · rintro ⟨y, hy, h⟩ hall
    have := hall y hy
    omega
def inB (n a b : Int) : Bool := decide (a ≤ n ∧ n ≤ b)
theorem inB_iff {n a b : Int} : inB n a b = true ↔ a ≤ n ∧ n ≤ b := by simp [inB]
theorem inB_false {n a b : Int} : inB n a b = false ↔ n < a ∨ b < n := by simp [inB]; omega
def plB (x y : Int) : Bool := decide (0 ≤ x ∧ x ≤ 11 ∧ 0 ≤ y ∧ y ≤ 11)
theorem plB_iff {x y : Int} : plB x y = true ↔ 0 ≤ x ∧ x ≤ 11 ∧ 0 ≤ y ∧ y ≤ 11 := by simp [plB]
theorem plB_false {x y : Int} : plB x y = false ↔ ¬ (0 ≤ x ∧ x ≤ 11 ∧ 0 ≤ y ∧ y ≤ 11) := by simp only [plB, decide_eq_false_iff_not]
def upd (f : Nat → Nat) (k n : Nat) : Nat → Nat := fun j => if j = k then n else f j
theorem upd_same (f : Nat → Nat) (k n : Nat) : upd f k n k = n := by simp [upd]
theorem upd_ne (f : Nat → Nat) {k j : Nat} (n : Nat) (h : j ≠ k) : upd f k n j = f j := by simp [upd, h]
def zeroF : Nat → Nat := fun _ => 0
def fullF : Nat → Nat := fun _ => 4095
def meetF (f g : Nat → Nat) : Nat → Nat := fun y => f y &&& g y
def joinF (f g : Nat → Nat) : Nat → Nat := fun y => f y ||| g y
def lessF (f g : Nat → Nat) : Nat → Nat := fun y => f y &&& (65535 - g y)
def unlikeF (f g : Nat → Nat) : Nat → Nat := fun y => f y ^^^ g y
def invF (f : Nat → Nat) : Nat → Nat := fun y => f y ^^^ 4095
theorem zeroF_lt (k : Nat) : zeroF k < 65536 := by simp [zeroF]
theorem fullF_lt (k : Nat) : fullF k < 65536 := by simp [fullF]
theorem invF_zero : invF zeroF = fullF := by funext y; simp [invF, zeroF, fullF]
theorem meetF_lt {f g : Nat → Nat} (hf : ∀ k, f k < 65536) (k : Nat) : meetF f g k < 65536 := Nat.lt_of_le_of_lt Nat.and_le_left (hf k)
theorem lessF_lt {f g : Nat → Nat} (hf : ∀ k, f k < 65536) (k : Nat) : lessF f g k < 65536 := Nat.lt_of_le_of_lt Nat.and_le_left (hf k)
theorem joinF_lt {f g : Nat → Nat} (hf : ∀ k, f k < 65536) (hg : ∀ k, g k < 65536) (k : Nat) : joinF f g k < 65536 := Nat.or_lt_two_pow (n := 16) (hf k) (hg k)
theorem unlikeF_lt {f g : Nat → Nat} (hf : ∀ k, f k < 65536) (hg : ∀ k, g k < 65536) (k : Nat) : unlikeF f g k < 65536 := Nat.xor_lt_two_pow (n := 16) (hf k) (hg k)
theorem invF_lt {f : Nat → Nat} (hf : ∀ k, f k < 65536) (k : Nat) : invF f k < 65536 := Nat.xor_lt_two_pow (n := 16) (hf k) (by decide)
/-- Two frames are equal: Go's '=='. -/
def eqF (f g : Nat → Nat) : Bool := (List.range 12).all fun y => f y == g y
theorem eqF_iff {f g : Nat → Nat} : eqF f g = true ↔ ∀ y, y < 12 → f y = g y := by simp [eqF]
theorem eqF_refl (f : Nat → Nat) : eqF f f = true := eqF_iff.2 fun _ _ => rfl
theorem eqF_false {f g : Nat → Nat} : eqF f g = false ↔ ∃ y, y < 12 ∧ f y ≠ g y := by
  rw [← Bool.not_eq_true, eqF_iff]
  constructor
  · intro h
    apply Classical.byContradiction
    intro hn
    apply h
    intro y hy
    apply Classical.byContradiction
    intro hy2
    exact hn ⟨y, hy, hy2⟩
  · rintro ⟨y, hy, h⟩ hall
    exact h (hall y hy)
/-- There is a dot. -/
def hasF (f : Nat → Nat) (x y : Int) : Bool := plB x y && (f y.toNat).testBit x.toNat
/-- A dot is put, if there is such a place. -/
def putF (f : Nat → Nat) (x y : Int) : Nat → Nat := if plB x y then upd f y.toNat (f y.toNat ||| 2 ^ x.toNat) else f
/-- The code of a frame and a place. -/
def askF (f : Nat → Nat) (x y : Int) : Int := if okF f then (if plB x y then 0 else 2) else 1
/-- A dot is taken away. -/
def clrF (f : Nat → Nat) (x y : Nat) : Nat → Nat := upd f y (f y &&& (65535 - 2 ^ x))
/-- WithDot's frame. -/
def withV (f : Nat → Nat) (x y : Int) (b : Bool) : Nat → Nat := if askF f x y = 0 then (if b then putF f x y else clrF f x.toNat y.toNat) else zeroF
def hasV (f : Nat → Nat) (x y : Int) : Bool := okF f && hasF f x y
theorem askF_cases (f : Nat → Nat) (x y : Int) : (okF f = false ∧ askF f x y = 1) ∨ (okF f = true ∧ plB x y = false ∧ askF f x y = 2) ∨ (okF f = true ∧ plB x y = true ∧ askF f x y = 0) := by
  unfold askF; cases okF f <;> cases plB x y <;> simp
/-- The code of a frame. -/
def okC (f : Nat → Nat) : Int := if okF f then 0 else 1
/-- The code of a frame and how far it is moved. -/
def wayC (f : Nat → Nat) (e s : Int) : Int := if okF f then (if inB e (-12) 12 && inB s (-12) 12 then 0 else 2) else 1
theorem wayC_cases (f : Nat → Nat) (e s : Int) : (okF f = false ∧ wayC f e s = 1) ∨ (okF f = true ∧ inB e (-12) 12 = false ∧ wayC f e s = 2) ∨ (okF f = true ∧ inB e (-12) 12 = true ∧ inB s (-12) 12 = false ∧ wayC f e s = 2) ∨ (okF f = true ∧ inB e (-12) 12 = true ∧ inB s (-12) 12 = true ∧ wayC f e s = 0) := by
  unfold wayC; cases okF f <;> cases inB e (-12) 12 <;> cases inB s (-12) 12 <;> simp
/-- The code of two frames. -/
def bothC (f g : Nat → Nat) : Int := if okF f && okF g then 0 else 1
theorem bothC_cases (f g : Nat → Nat) : (okF f = false ∧ bothC f g = 1) ∨ (okF f = true ∧ okF g = false ∧ bothC f g = 1) ∨ (okF f = true ∧ okF g = true ∧ bothC f g = 0) := by
  unfold bothC; cases okF f <;> cases okF g <;> simp
/-- A frame, if the code is 0. -/
def ifC (c : Int) (r : Nat → Nat) : Nat → Nat := if c = 0 then r else zeroF
/-- The dots among the first k places, row by row. -/
def dotsTo (f : Nat → Nat) (k : Nat) : List (Nat × Nat) := (List.range k).filterMap fun i => if (f (i / 12)).testBit (i % 12) then some (i % 12, i / 12) else none
def dots (f : Nat → Nat) : List (Nat × Nat) := dotsTo f 144
theorem dotsTo_zero (f : Nat → Nat) : dotsTo f 0 = [] := rfl
theorem dotsTo_succ (f : Nat → Nat) (k : Nat) : dotsTo f (k + 1) = dotsTo f k ++ if (f (k / 12)).testBit (k % 12) then [(k % 12, k / 12)] else [] := by
  unfold dotsTo
  rw [List.range_succ, List.filterMap_append]
  congr 1
  cases h : (f (k / 12)).testBit (k % 12) <;> simp [h]
theorem dotsTo_step (f : Nat → Nat) {x y : Nat} (hx : x < 12) : dotsTo f (12 * y + (x + 1)) = dotsTo f (12 * y + x) ++ if (f y).testBit x then [(x, y)] else [] := by
  rw [show 12 * y + (x + 1) = (12 * y + x) + 1 by omega, dotsTo_succ, show (12 * y + x) / 12 = y by omega, show (12 * y + x) % 12 = x by omega]
theorem dotsTo_length (f : Nat → Nat) (k : Nat) : (dotsTo f k).length ≤ k := by
  unfold dotsTo
  exact Nat.le_trans (List.length_filterMap_le _ _) (by simp)
theorem mem_dotsTo {f : Nat → Nat} {k : Nat} {d : Nat × Nat} : d ∈ dotsTo f k ↔ 12 * d.2 + d.1 < k ∧ d.1 < 12 ∧ (f d.2).testBit d.1 = true := by
  unfold dotsTo
  simp only [List.mem_filterMap, List.mem_range]
  constructor
  · rintro ⟨i, hi, h⟩
    split at h
    · rename_i hb
      cases h
      exact ⟨by show 12 * (i / 12) + i % 12 < k; omega, by show i % 12 < 12; omega, hb⟩
    · cases h
  · rintro ⟨h1, h2, h3⟩
    refine ⟨12 * d.2 + d.1, h1, ?_⟩
    rw [show (12 * d.2 + d.1) / 12 = d.2 by omega, show (12 * d.2 + d.1) % 12 = d.1 by omega, h3]
    simp
theorem mem_dots {f : Nat → Nat} {d : Nat × Nat} : d ∈ dots f ↔ d.1 < 12 ∧ d.2 < 12 ∧ (f d.2).testBit d.1 = true := by
  unfold dots
  rw [mem_dotsTo]
  constructor
  · rintro ⟨h1, h2, h3⟩; exact ⟨h2, by omega, h3⟩
  · rintro ⟨h1, h2, h3⟩; exact ⟨by omega, h1, h3⟩
end Go.Proofs.Ytjbjbdkmomkclaa
