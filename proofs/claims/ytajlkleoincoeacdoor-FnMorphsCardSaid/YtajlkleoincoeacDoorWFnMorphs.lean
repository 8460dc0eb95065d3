import Derived.Test.YtajlkleoincoeacDoorRows
import Derived.Test.YtajlkleoincoeacDoorM16
/- The walk of the law FnMorphs: it returns true and writes nothing that was there. -/
namespace Go.Proofs.YtajlkleoincoeacDoor.wFnMorphs
set_option maxRecDepth 100000
open Go.RowKit
set_option linter.unusedVariables false
set_option linter.unusedSimpArgs false
theorem big_any (A : Option Addr) (n c : Nat) (w : World) (hn : n ≤ maxLen) : Calls Tryd.prog 26 #[.slice A n c] w fun e w' => e = .returned (.bool (decide (4096 < (n : Int)))) ∧ w = w' := by
  unfold maxLen at hn
  go_enter Tryd.func26, Tryd.ntmps26
  go_wp2
  go_ret
  exact ⟨rfl, rfl⟩
theorem getD_bd {B : List Int} (h : ∀ x ∈ B, 0 ≤ x ∧ x ≤ 255) (i : Nat) : 0 ≤ B.getD i 0 ∧ B.getD i 0 ≤ 255 := by
  rw [List.getD_eq_getElem?_getD]
  by_cases hi : i < B.length
  · rw [List.getElem?_eq_getElem hi]; exact h _ (List.getElem_mem hi)
  · rw [List.getElem?_eq_none (by omega)]; simp
open Go.RowKit in
theorem eqGuard_agg (P : Program) (x y : Operand) (A B : Array Value) (t : TypeId) (h : P.eqGuardType P.depth t = false) (w : World) : (eqGuard .eql t x y (.agg A) (.agg B)).run P w = .ok () w := by
  unfold eqGuard
  simp [Sem.run_bind, Sem.run_pure, run_program, Result.andThen_ok, h]
/-- Two rows compared under a guard that is met. -/
theorem wpList_eql_rowG {P : Program} {ops : Array Oper} {rest : List Oper} {o : Oper} {a : Act} {w : World} {Q : Exit → Act → World → Prop} (hw : Region.wanted o (yielded ops a.tmps) = true) (ty ty2 : TypeId) (x y : Operand) (ho : o.op = .binOp .eql ty x y ty2) (A B : Array Value) (hx : a.eval x = .agg A) (hy : a.eval y = .agg B) (v : Value) (hg : P.eqGuardType P.depth ty = false) (hr : ∀ w, (binOp .eql ty (.agg A) (.agg B)).run P w = .ok v w)
    (h : wpList P ops Q rest (a.put o.dst v) w) : wpList P ops Q (o :: rest) a w :=
  wpList_step fun K hK => by
    rw [if_pos hw]
    unfold Oper.wp execOp
    simp only [ho, hx, hy, Sem.run_bind, Sem.run_pure, Result.andThen_ok, eqGuard_agg P x y A B ty hg, hr]
    exact hK _ _ h
set_option maxHeartbeats 4000000 in
theorem reg22 {x0 x1 x2 x3 x4 x5 x6 x7 x8 x9 x10 x11 x12 x13 x14 x15 x16 x17 x18 x19 x20 x27 x28 x29 x30 x31 x32 x33 x34 x35 x36 x37 x38 x39 x40 x41 x42 x43 x44 x45 x46 x47 x48 x49 x50 x51 x52 x53 x54 x55 x56 x57 x58 x59 x60 x61 x62 x63 x64 x65 x66 x67 x68 x69 x70 x71 x72 x73 x74 x75 x76 x77 x78 x79 x80 x81 x82 x83 x84 x85 x86 x87 x88 x89 x90 x91 x92 x93 x94 x95 x96 x97 x98 x99 x100 x101 x102 x103 x104 x105 x106 x107 x108 x109 x110 x111 x112 x113 x114 x115 x116 x117 x118 x119 x120 x121 x122 x123 x124 x125 x126 x127 x128 x129 x130 x131 x132 x133 x134 x135 x136 x137 x138 x139 x140 x141 x142 x143 x144 x145 x146 x147 x148 x149 x150 x151 x152 x153 x154 x155 x156 x157 x158 x159 x160 x161 x162 x163 x164 x165 x166 x167 x168 x169 x170 x171 x172 x173 x174 x175 x176 x177 x178 x179 x180 x181 x182 x183 x184 x185 x186 x187 x188 x190 x191 x192 x193 x194 x195 x196 x197 x198 x199 x200 x201 x202 : Value} {gM gN gJ : Nat} {H J : Nat → Nat} {w : World} (bM : Blk w gM 26 H) (bN : Blk w gN 26 H) (bJ : Blk w gJ 26 J)
    (e1 : ∀ w, (binOp .eql 26 (.agg (FC H)) (.agg (FC H))).run Tryd.prog w = .ok (.bool true) w) (e2 : ∀ w, (binOp .eql 26 (.agg (FC J)) (.agg (FC H))).run Tryd.prog w = .ok (.bool true) w)
    {Q : Exit → Act → World → Prop} (hQ : Q .normal ⟨#[x0, x1, x2, x3, Value.bool true, x5, x6, x7, x8, x9, x10, x11, x12, x13, x14, x15, x16, x17, x18, x19, x20, Value.pointer (some ⟨gM, 0, none⟩), Value.int .i64 0, Value.pointer (some ⟨gN, 0, none⟩), Value.int .i64 0, Value.pointer (some ⟨gJ, 0, none⟩), Value.int .i64 0, x27, x28, x29, x30, x31, x32, x33, x34, x35, x36, x37, x38, x39, x40, x41, x42, x43, x44, x45, x46, x47, x48, x49, x50, x51, x52, x53, x54, x55, x56, x57, x58, x59, x60, x61, x62, x63, x64, x65, x66, x67, x68, x69, x70, x71, x72, x73, x74, x75, x76, x77, x78, x79, x80, x81, x82, x83, x84, x85, x86, x87, x88, x89, x90, x91, x92, x93, x94, x95, x96, x97, x98, x99, x100, x101, x102, x103, x104, x105, x106, x107, x108, x109, x110, x111, x112, x113, x114, x115, x116, x117, x118, x119, x120, x121, x122, x123, x124, x125, x126, x127, x128, x129, x130, x131, x132, x133, x134, x135, x136, x137, x138, x139, x140, x141, x142, x143, x144, x145, x146, x147, x148, x149, x150, x151, x152, x153, x154, x155, x156, x157, x158, x159, x160, x161, x162, x163, x164, x165, x166, x167, x168, x169, x170, x171, x172, x173, x174, x175, x176, x177, x178, x179, x180, x181, x182, x183, x184, x185, x186, x187, x188, Value.bool true, Value.agg (FC H), Value.agg (FC H), Value.bool true, Value.bool true, Value.bool true, Value.int .i64 0, Value.bool true, Value.bool true, Value.bool true, Value.agg (FC J), Value.agg (FC H), Value.bool true, Value.bool true], []⟩ w) :
    wpList Tryd.prog #[{ dst := some 183, op := Op.move (Operand.tmp 22), type := 2, pos := "laws.go:973", «after» := #[], guard := none }, { dst := some 184, op := Op.binOp BinOp.eql 2 (Operand.tmp 183) (Operand.const (Value.int IntKind.i64 0)) 2, type := 4, pos := "laws.go:973", «after» := #[{ on := 0, ground := Ground.data }], guard := none }, { dst := some 185, op := Op.move (Operand.tmp 184), type := 4, pos := "laws.go:973", «after» := #[{ on := 1, ground := Ground.data }], guard := none }, { dst := some 186, op := Op.move (Operand.tmp 24), type := 2, pos := "laws.go:973", «after» := #[{ on := 2, ground := Ground.guard }], guard := some (2, true) }, { dst := some 187, op := Op.binOp BinOp.eql 2 (Operand.tmp 186) (Operand.const (Value.int IntKind.i64 0)) 2, type := 4, pos := "laws.go:973", «after» := #[{ on := 3, ground := Ground.data }, { on := 2, ground := Ground.guard }], guard := some (2, true) }, { dst := some 188, op := Op.pick (Operand.tmp 185) (Operand.tmp 187) (Operand.const (Value.bool false)), type := 4, pos := "laws.go:973", «after» := #[{ on := 2, ground := Ground.data }, { on := 4, ground := Ground.data }], guard := none }, { dst := some 189, op := Op.move (Operand.tmp 188), type := 4, pos := "laws.go:973", «after» := #[{ on := 5, ground := Ground.data }, { on := 2, ground := Ground.chain }], guard := none }, { dst := some 190, op := Op.load 26 (Operand.tmp 21), type := 26, pos := "laws.go:973", «after» := #[{ on := 6, ground := Ground.guard }], guard := some (6, true) }, { dst := some 191, op := Op.load 26 (Operand.tmp 23), type := 26, pos := "laws.go:973", «after» := #[{ on := 6, ground := Ground.guard }], guard := some (6, true) }, { dst := some 192, op := Op.binOp BinOp.eql 26 (Operand.tmp 190) (Operand.tmp 191) 26, type := 4, pos := "laws.go:973", «after» := #[{ on := 7, ground := Ground.data }, { on := 8, ground := Ground.data }, { on := 6, ground := Ground.guard }], guard := some (6, true) }, { dst := some 193, op := Op.pick (Operand.tmp 189) (Operand.tmp 192) (Operand.const (Value.bool false)), type := 4, pos := "laws.go:973", «after» := #[{ on := 6, ground := Ground.data }, { on := 9, ground := Ground.data }], guard := none }, { dst := some 194, op := Op.move (Operand.tmp 193), type := 4, pos := "laws.go:973", «after» := #[{ on := 10, ground := Ground.data }, { on := 6, ground := Ground.chain }], guard := none }, { dst := some 195, op := Op.move (Operand.tmp 26), type := 2, pos := "laws.go:973", «after» := #[{ on := 11, ground := Ground.guard }], guard := some (11, true) }, { dst := some 196, op := Op.binOp BinOp.eql 2 (Operand.tmp 195) (Operand.const (Value.int IntKind.i64 0)) 2, type := 4, pos := "laws.go:973", «after» := #[{ on := 12, ground := Ground.data }, { on := 11, ground := Ground.guard }], guard := some (11, true) }, { dst := some 197, op := Op.pick (Operand.tmp 194) (Operand.tmp 196) (Operand.const (Value.bool false)), type := 4, pos := "laws.go:973", «after» := #[{ on := 11, ground := Ground.data }, { on := 13, ground := Ground.data }], guard := none }, { dst := some 198, op := Op.move (Operand.tmp 197), type := 4, pos := "laws.go:973", «after» := #[{ on := 14, ground := Ground.data }, { on := 11, ground := Ground.chain }], guard := none }, { dst := some 199, op := Op.load 26 (Operand.tmp 25), type := 26, pos := "laws.go:973", «after» := #[{ on := 15, ground := Ground.guard }], guard := some (15, true) }, { dst := some 200, op := Op.load 26 (Operand.tmp 23), type := 26, pos := "laws.go:973", «after» := #[{ on := 15, ground := Ground.guard }], guard := some (15, true) }, { dst := some 201, op := Op.binOp BinOp.eql 26 (Operand.tmp 199) (Operand.tmp 200) 26, type := 4, pos := "laws.go:973", «after» := #[{ on := 16, ground := Ground.data }, { on := 17, ground := Ground.data }, { on := 15, ground := Ground.guard }], guard := some (15, true) }, { dst := some 202, op := Op.pick (Operand.tmp 198) (Operand.tmp 201) (Operand.const (Value.bool false)), type := 4, pos := "laws.go:973", «after» := #[{ on := 15, ground := Ground.data }, { on := 18, ground := Ground.data }], guard := none }, { dst := some 4, op := Op.assign (Operand.tmp 202), type := 4, pos := "laws.go:973", «after» := #[{ on := 19, ground := Ground.data }, { on := 15, ground := Ground.chain }, { on := 0, ground := Ground.phase }, { on := 1, ground := Ground.phase }, { on := 2, ground := Ground.phase }, { on := 3, ground := Ground.phase }, { on := 4, ground := Ground.phase }, { on := 5, ground := Ground.phase }, { on := 6, ground := Ground.phase }, { on := 7, ground := Ground.phase }, { on := 8, ground := Ground.phase }, { on := 9, ground := Ground.phase }, { on := 10, ground := Ground.phase }, { on := 11, ground := Ground.phase }, { on := 12, ground := Ground.phase }, { on := 13, ground := Ground.phase }, { on := 14, ground := Ground.phase }, { on := 15, ground := Ground.phase }, { on := 16, ground := Ground.phase }, { on := 17, ground := Ground.phase }, { on := 18, ground := Ground.phase }, { on := 19, ground := Ground.phase }], guard := none }] Q [{ dst := some 190, op := Op.load 26 (Operand.tmp 21), type := 26, pos := "laws.go:973", «after» := #[{ on := 6, ground := Ground.guard }], guard := some (6, true) }, { dst := some 191, op := Op.load 26 (Operand.tmp 23), type := 26, pos := "laws.go:973", «after» := #[{ on := 6, ground := Ground.guard }], guard := some (6, true) }, { dst := some 192, op := Op.binOp BinOp.eql 26 (Operand.tmp 190) (Operand.tmp 191) 26, type := 4, pos := "laws.go:973", «after» := #[{ on := 7, ground := Ground.data }, { on := 8, ground := Ground.data }, { on := 6, ground := Ground.guard }], guard := some (6, true) }, { dst := some 193, op := Op.pick (Operand.tmp 189) (Operand.tmp 192) (Operand.const (Value.bool false)), type := 4, pos := "laws.go:973", «after» := #[{ on := 6, ground := Ground.data }, { on := 9, ground := Ground.data }], guard := none }, { dst := some 194, op := Op.move (Operand.tmp 193), type := 4, pos := "laws.go:973", «after» := #[{ on := 10, ground := Ground.data }, { on := 6, ground := Ground.chain }], guard := none }, { dst := some 195, op := Op.move (Operand.tmp 26), type := 2, pos := "laws.go:973", «after» := #[{ on := 11, ground := Ground.guard }], guard := some (11, true) }, { dst := some 196, op := Op.binOp BinOp.eql 2 (Operand.tmp 195) (Operand.const (Value.int IntKind.i64 0)) 2, type := 4, pos := "laws.go:973", «after» := #[{ on := 12, ground := Ground.data }, { on := 11, ground := Ground.guard }], guard := some (11, true) }, { dst := some 197, op := Op.pick (Operand.tmp 194) (Operand.tmp 196) (Operand.const (Value.bool false)), type := 4, pos := "laws.go:973", «after» := #[{ on := 11, ground := Ground.data }, { on := 13, ground := Ground.data }], guard := none }, { dst := some 198, op := Op.move (Operand.tmp 197), type := 4, pos := "laws.go:973", «after» := #[{ on := 14, ground := Ground.data }, { on := 11, ground := Ground.chain }], guard := none }, { dst := some 199, op := Op.load 26 (Operand.tmp 25), type := 26, pos := "laws.go:973", «after» := #[{ on := 15, ground := Ground.guard }], guard := some (15, true) }, { dst := some 200, op := Op.load 26 (Operand.tmp 23), type := 26, pos := "laws.go:973", «after» := #[{ on := 15, ground := Ground.guard }], guard := some (15, true) }, { dst := some 201, op := Op.binOp BinOp.eql 26 (Operand.tmp 199) (Operand.tmp 200) 26, type := 4, pos := "laws.go:973", «after» := #[{ on := 16, ground := Ground.data }, { on := 17, ground := Ground.data }, { on := 15, ground := Ground.guard }], guard := some (15, true) }, { dst := some 202, op := Op.pick (Operand.tmp 198) (Operand.tmp 201) (Operand.const (Value.bool false)), type := 4, pos := "laws.go:973", «after» := #[{ on := 15, ground := Ground.data }, { on := 18, ground := Ground.data }], guard := none }, { dst := some 4, op := Op.assign (Operand.tmp 202), type := 4, pos := "laws.go:973", «after» := #[{ on := 19, ground := Ground.data }, { on := 15, ground := Ground.chain }, { on := 0, ground := Ground.phase }, { on := 1, ground := Ground.phase }, { on := 2, ground := Ground.phase }, { on := 3, ground := Ground.phase }, { on := 4, ground := Ground.phase }, { on := 5, ground := Ground.phase }, { on := 6, ground := Ground.phase }, { on := 7, ground := Ground.phase }, { on := 8, ground := Ground.phase }, { on := 9, ground := Ground.phase }, { on := 10, ground := Ground.phase }, { on := 11, ground := Ground.phase }, { on := 12, ground := Ground.phase }, { on := 13, ground := Ground.phase }, { on := 14, ground := Ground.phase }, { on := 15, ground := Ground.phase }, { on := 16, ground := Ground.phase }, { on := 17, ground := Ground.phase }, { on := 18, ground := Ground.phase }, { on := 19, ground := Ground.phase }], guard := none }] ⟨#[x0, x1, x2, x3, x4, x5, x6, x7, x8, x9, x10, x11, x12, x13, x14, x15, x16, x17, x18, x19, x20, Value.pointer (some ⟨gM, 0, none⟩), Value.int .i64 0, Value.pointer (some ⟨gN, 0, none⟩), Value.int .i64 0, Value.pointer (some ⟨gJ, 0, none⟩), Value.int .i64 0, x27, x28, x29, x30, x31, x32, x33, x34, x35, x36, x37, x38, x39, x40, x41, x42, x43, x44, x45, x46, x47, x48, x49, x50, x51, x52, x53, x54, x55, x56, x57, x58, x59, x60, x61, x62, x63, x64, x65, x66, x67, x68, x69, x70, x71, x72, x73, x74, x75, x76, x77, x78, x79, x80, x81, x82, x83, x84, x85, x86, x87, x88, x89, x90, x91, x92, x93, x94, x95, x96, x97, x98, x99, x100, x101, x102, x103, x104, x105, x106, x107, x108, x109, x110, x111, x112, x113, x114, x115, x116, x117, x118, x119, x120, x121, x122, x123, x124, x125, x126, x127, x128, x129, x130, x131, x132, x133, x134, x135, x136, x137, x138, x139, x140, x141, x142, x143, x144, x145, x146, x147, x148, x149, x150, x151, x152, x153, x154, x155, x156, x157, x158, x159, x160, x161, x162, x163, x164, x165, x166, x167, x168, x169, x170, x171, x172, x173, x174, x175, x176, x177, x178, x179, x180, x181, x182, x183, x184, x185, x186, x187, x188, Value.bool true, x190, x191, x192, x193, x194, x195, x196, x197, x198, x199, x200, x201, x202], []⟩ w := by
  go_wp2_with (first | ((refine wpList_load_frG (by rfl) 26 24 _ rfl _ rfl (by first | exact bM | exact bN | exact bJ) Tryd.underlying26 (by kernel_rfl) ?_)) | ((refine wpList_eql_rowG (by rfl) 26 _ _ _ rfl _ _ rfl rfl _ (by kernel_rfl) (by first | exact e1 | exact e2) ?_)))
  exact hQ
theorem i64_le {n : Nat} (h : n ≤ 2000000) : IntKind.i64.wrap (n : Int) = (n : Int) := IntWalk.i64_in _ (by omega)
theorem w64_le {n : Nat} (h : n ≤ 2000000) : wrap64 (n : Int) = (n : Int) := IntWalk.wrap64_in _ (by omega)
set_option maxHeartbeats 60000000 in
theorem walk (va : Value) (La : List Int) (vb : Value) (Lb : List Int) (ha : ∀ x ∈ La, 0 ≤ x ∧ x ≤ 255) (hb : ∀ x ∈ Lb, 0 ≤ x ∧ x ≤ 255) (w : World) (sa : SlAt (eI .u8) w w.heap.size va La) (sb : SlAt (eI .u8) w w.heap.size vb Lb) (sn : Nat → Addr) (hs : Sent w sn) :
    Calls Tryd.prog 7 #[va, vb] w fun e w' => e = .returned (.bool true) ∧ Below w.heap.size w w' := by
  have hma := sa.len
  have hmb := sb.len
  have h0 := Below.refl w.heap.size w
  obtain ⟨Aa, ca, rfl⟩ := sa.form
  obtain ⟨Ab, cb, rfl⟩ := sb.form
  have cA := fun w => big_any Aa La.length ca w hma
  have cB := fun w => big_any Ab Lb.length cb w hmb
  by_cases hza : 4096 < La.length
  · rw [decide_eq_true (by omega)] at cA
    go_enter Tryd.func7, Tryd.ntmps7
    go_wp2_with (go_at_call 26; refine (cA _).mono ?_; rintro e w' ⟨rfl, rfl⟩)
    go_ret
    exact ⟨rfl, h0⟩
  rw [decide_eq_false (by omega)] at cA
  by_cases hzb : 4096 < Lb.length
  · rw [decide_eq_true (by omega)] at cB
    go_enter Tryd.func7, Tryd.ntmps7
    go_wp2_with (go_at_call 26; first | (refine (cA _).mono ?_; rintro e w' ⟨rfl, rfl⟩; clear cA) | (refine (cB _).mono ?_; rintro e w' ⟨rfl, rfl⟩))
    go_ret
    exact ⟨rfl, h0⟩
  rw [decide_eq_false (by omega)] at cB
  have PA := Lib.hid (fun (w' : World) (hb' : Below w.heap.size w w') => p6Frame_any _ La w' (getD_bd ha) (by omega) (sa.later hb'))
  have PB := Lib.hid (fun (w' : World) (hb' : Below w.heap.size w w') => p6Frame_any _ Lb w' (getD_bd hb) (by omega) (sb.later hb'))
  have PN := Lib.hid (fun (n : Int) (hn : 1 ≤ n ∧ n ≤ 60000) (w' : World) (hb' : Below w.heap.size w w') => p6Pick_any _ Lb n w' hn (getD_bd hb) (by omega) (sb.later hb'))
  have HS := Lib.hid (fun (w' : World) (hb' : Below w.heap.size w w') => hs.below hb')
  clear ha hb sa sb hza hzb hma hmb hs
  go_enter Tryd.func7, Tryd.ntmps7
  go_wp2_with (go_at_call 26; first | (refine (cA _).mono ?_; rintro e w' ⟨rfl, rfl⟩; clear cA) | (refine (cB _).mono ?_; rintro e w' ⟨rfl, rfl⟩; clear cB))
  refine (PA.out _ h0).mono ?_
  rintro e w1 ⟨a, ha, rfl, hb1⟩
  replace h0 := grown_below h0 hb1 h0.size
  clear hb1
  have bA := Blk.new w1 26 a
  have hA0 := h0.alloc h0.size (.cells (FC a) 26)
  clear h0
  go_wp2_with (refine wpList_store_new (f0 := zeroF) (f := a) rfl 26 _ _ rfl rfl rfl (by kernel_rfl) ?_)
  generalize hg5 : w1.heap.size = g5 at *
  generalize w1.alloc _ = w2 at *
  clear hg5
  clear w1
  refine (PB.out _ hA0).mono ?_
  rintro e w3 ⟨b, hb, rfl, hb3⟩
  replace bA := bA.below hb3 bA.lt
  replace hA0 := grown_below hA0 hb3 hA0.size
  clear hb3
  have bB := Blk.new w3 26 b
  have h0 := hA0.alloc hA0.size (.cells (FC b) 26)
  replace bA := bA.alloc (.cells (FC b) 26)
  clear hA0
  go_wp2_with (refine wpList_store_new (f0 := zeroF) (f := b) rfl 26 _ _ rfl rfl rfl (by kernel_rfl) ?_)
  generalize hg6 : w3.heap.size = g6 at *
  generalize w3.alloc _ = w4 at *
  clear hg6
  clear w3
  clear w2
  refine (PN.out 10 (by omega) _ h0).mono ?_
  rintro e w5 ⟨x, hx, rfl, hb5⟩
  replace bA := bA.below hb5 bA.lt
  replace bB := bB.below hb5 bB.lt
  replace h0 := grown_below h0 hb5 h0.size
  clear hb5
  clear w4
  obtain ⟨t, ht⟩ : ∃ t : Nat, 1 + x = (t : Int) := ⟨(1 + x).toNat, by omega⟩
  have t1 : 1 ≤ t := by omega
  have t2 : t ≤ 10 := by omega
  have kt : IntKind.i64.wrap (t : Int) = (t : Int) := IntWalk.i64_in _ (by omega)
  have kx : IntKind.i64.wrap (1 + x) = (t : Int) := by rw [ht]; exact kt
  have oa := ok_of_4096 ha
  have ob := ok_of_4096 hb
  have la := lt_of_4096 ha
  have lb := lt_of_4096 hb
  obtain ⟨F, hF⟩ : ∃ F : Nat → (Nat → Nat), F = fun i => morF a b i t := ⟨_, rfl⟩
  have eF : ∀ i, morF a b i t = F i := fun i => by rw [hF]
  have oF : ∀ i, okF (F i) = true := fun i => by rw [← eF]; exact morK_ok oa _ _
  have lF : ∀ i k, F i k < 65536 := fun i k => by rw [← eF]; exact morK_lt la _ _ k
  have f0 : eqF (F 0) a = true := by rw [← eF]; exact morF_first oa ob t
  have fT : eqF (F t) b = true := by rw [← eF]; exact morF_last oa ob (by omega)
  obtain ⟨D, hD⟩ : ∃ D : Nat, difN a b = D := ⟨_, rfl⟩
  have hDl : D ≤ 192 := by rw [← hD]; exact difN_le a b
  obtain ⟨H, hH⟩ : ∃ H, morF a b 1 2 = H := ⟨_, rfl⟩
  have oH : okF H = true := by rw [← hH]; exact morK_ok oa _ _
  have lH : ∀ k, H k < 65536 := fun k => by rw [← hH]; exact morK_lt la _ _ k
  have mH : eqF (majF a b H) H = true := by rw [← hH]; exact maj_mor oa ob _
  have CMB := Lib.hid fun (w' : World) (hb' : Below w.heap.size w w') => (by have := morphBook_ok a b t sn w' oa ob la lb t1 (by omega) (HS.out w' hb'); rw [← hF] at this; exact this : Calls Tryd.prog 29 #[.agg (FC a), .agg (FC b), .int .i64 t] w' (GivesL eFr 26 (tab F (t + 1)) 0 w'))
  have CSB := Lib.hid fun (w' : World) => (by have := morphBookS_ok a b t w' oa ob la lb t1 (by omega); rw [← hF] at this; exact this : Calls Tryd.prog 30 #[.agg (FC a), .agg (FC b), .int .i64 t] w' (GivesL eFr 26 (tab F (t + 1)) 0 w'))
  have CD := Lib.hid fun (w' : World) => (by have := differ_ok a b oa ob la lb w'; rw [hD] at this; exact this : Calls Tryd.prog 31 #[.agg (FC a), .agg (FC b)] w' fun e w'' => e = .returned (.tuple #[.int .i64 (D : Int), .int .i64 0]) ∧ Below w'.heap.size w' w'')
  have CAT := Lib.hid fun (i : Nat) (hi : i ≤ t) (w' : World) (hb' : Below w.heap.size w w') => (by have := morphAt_ok a b i t sn w' oa ob la lb hi t1 (by omega) (HS.out w' hb'); rw [eF] at this; exact this : Calls Tryd.prog 33 #[.agg (FC a), .agg (FC b), .int .i64 i, .int .i64 t] w' fun e w'' => e = .returned (.tuple #[.agg (FC (F i)), .int .i64 0]) ∧ Below w'.heap.size w' w'')
  have CDG := Lib.hid fun (i : Nat) (hi : i ≤ t) (w' : World) => (by have := differ_ok a (F i) oa (oF i) la (lF i) w'; rw [← eF, morF_gone oa ob hi, hD, eF] at this; exact this : Calls Tryd.prog 31 #[.agg (FC a), .agg (FC (F i))] w' fun e w'' => e = .returned (.tuple #[.int .i64 ((D * i / t : Nat) : Int), .int .i64 0]) ∧ Below w'.heap.size w' w'')
  have CDL := Lib.hid fun (i : Nat) (hi : i ≤ t) (w' : World) => (by have := differ_ok (F i) b (oF i) ob (lF i) lb w'; rw [← eF, morF_left oa ob hi, hD, eF] at this; exact this : Calls Tryd.prog 31 #[.agg (FC (F i)), .agg (FC b)] w' fun e w'' => e = .returned (.tuple #[.int .i64 ((D - D * i / t : Nat) : Int), .int .i64 0]) ∧ Below w'.heap.size w' w'')
  have CMI := Lib.hid fun (w' : World) (hb' : Below w.heap.size w w') => (by have := middle_ok a b sn w' oa ob la lb (HS.out w' hb'); rw [hH] at this; exact this : Calls Tryd.prog 34 #[.agg (FC a), .agg (FC b)] w' fun e w'' => e = .returned (.tuple #[.agg (FC H), .int .i64 0]) ∧ Below w'.heap.size w' w'')
  have CA2 := Lib.hid fun (w' : World) (hb' : Below w.heap.size w w') => (by have := morphAt_ok a b 1 2 sn w' oa ob la lb (by decide) (by decide) (by decide) (HS.out w' hb'); rw [hH] at this; exact this : Calls Tryd.prog 33 #[.agg (FC a), .agg (FC b), .int .i64 1, .int .i64 2] w' fun e w'' => e = .returned (.tuple #[.agg (FC H), .int .i64 0]) ∧ Below w'.heap.size w' w'')
  have CMJ := Lib.hid fun (w' : World) => (major_ok a b H w' oa ob oH la lb lH : Calls Tryd.prog 35 #[.agg (FC a), .agg (FC b), .agg (FC H)] w' fun e w'' => e = .returned (.tuple #[.agg (FC (majF a b H)), .int .i64 0]) ∧ Below w'.heap.size w' w'')
  generalize majF a b H = J at *
  clear hF eF oF lF oa ob la lb ha hb hD hH oH lH PA PB PN HS
  obtain ⟨i0, hi0⟩ : ∃ i, Tryd.prog.info? 24 = some i := ⟨_, rfl⟩
  have NE := Lib.hid fun (f g : Nat → Nat) (w : World) => run_neq_fr (P := Tryd.prog) w f g Tryd.underlying26 (by kernel_rfl) Tryd.underlying24 hi0 (by kernel_rfl)
  have EQ := Lib.hid fun (f g : Nat → Nat) (w : World) => run_eql_fr (P := Tryd.prog) w f g Tryd.underlying26 (by kernel_rfl) Tryd.underlying24 hi0 (by kernel_rfl)
  clear hi0
  go_wp2_with (refine wpList_load_fr rfl 26 24 _ rfl _ rfl (by first | exact bA | exact bB) Tryd.underlying26 (by kernel_rfl) ?_)
  refine (CMB.out _ h0).mono ?_
  rintro e w6 ⟨bk, rfl, obk, hb⟩
  replace bA := bA.below hb bA.lt
  replace bB := bB.below hb bB.lt
  replace h0 := grown_below h0 hb h0.size
  clear hb CMB
  obtain ⟨A8, c8, hv8⟩ := obk.val
  rw [tab_length] at hv8
  subst hv8
  go_wp2_with (refine wpList_load_fr rfl 26 24 _ rfl _ rfl (by first | exact bA | exact bB) Tryd.underlying26 (by kernel_rfl) ?_)
  refine (CSB.out _).mono ?_
  rintro e w7 ⟨du, rfl, odu, hb⟩
  replace bA := bA.below hb bA.lt
  replace bB := bB.below hb bB.lt
  replace obk := obk.below hb
  replace h0 := grown_below h0 hb h0.size
  clear hb CSB
  obtain ⟨A9, c9, hv9⟩ := odu.val
  rw [tab_length] at hv9
  subst hv9
  go_wp2_with (refine wpList_load_fr rfl 26 24 _ rfl _ rfl (by first | exact bA | exact bB) Tryd.underlying26 (by kernel_rfl) ?_)
  refine (CD.out _).mono ?_
  rintro e w8 ⟨rfl, hb⟩
  replace bA := bA.below hb bA.lt
  replace bB := bB.below hb bB.lt
  replace obk := obk.below hb
  replace odu := odu.below hb
  replace h0 := grown_below h0 hb h0.size
  clear hb CD
  have sbk := obk.sl (by decide)
  have sdu := odu.sl (by decide)
  have cSB := fun (p : Regrown) => (by have := specSameBook_any _ _ (tab F (t + 1)) (tab F (t + 1)) (Go.Sort.grow (redrawn w8 p.d) p.os) (sbk.later (below_regrown w8 p.d p.os)) (sdu.later (below_regrown w8 p.d p.os)); rw [eqB_refl] at this; exact this : Calls Tryd.prog 32 #[.slice A8 (t + 1) c8, .slice A9 (t + 1) c9] (Go.Sort.grow (redrawn w8 p.d) p.os) fun e w' => e = .returned (.bool true) ∧ Below (Go.Sort.grow (redrawn w8 p.d) p.os).heap.size (Go.Sort.grow (redrawn w8 p.d) p.os) w')
  obtain ⟨A9', c9', he9, q1, q2, q3⟩ := sdu
  rw [tab_length] at he9 q1 q3
  cases he9
  obtain ⟨b9, o9, rfl, lt9, r9⟩ := q3 (by omega)
  unfold maxLen at q2
  have r0 := range_part r9 (tab_get F (show 0 < t + 1 by omega))
  have rT := range_part r9 (tab_get F (show t < t + 1 by omega))
  rw [eFr_n] at r0 rT
  rw [Nat.zero_mul, Nat.add_zero] at r0
  have n0 : ∀ w, (binOp .neq 26 (.agg (FC (F 0))) (.agg (FC a))).run Tryd.prog w = .ok (.bool false) w := fun w => by rw [NE.out, f0]; rfl
  have nT : ∀ w, (binOp .neq 26 (.agg (FC (F t))) (.agg (FC b))).run Tryd.prog w = .ok (.bool false) w := fun w => by rw [NE.out, fT]; rfl
  have kt1 : IntKind.i64.wrap ((t : Int) + 1) = (t : Int) + 1 := IntWalk.i64_in _ (by omega)
  have i1 : ((t : Int) < 0) = False := eq_false (by omega)
  have i2 : (t : Int).toNat = t := Int.toNat_natCast t
  have i3 : (t < t + 1) = True := by simp
  have i4 : ((t : Int) < (t : Int) + 1) = True := eq_true (by omega)
  have i5 : (0 ≤ (t : Int)) = True := by simp
  clear q3 sbk obk
  go_wp2_with fail
  refine wp_region_calm (by kernel_rfl) (by kernel_rfl) ?_
  repeat (first | (refine wpQuiet_load_atG (by rfl) 26 24 _ rfl _ _ rfl (by first | exact r0 | exact rT) lt9 Tryd.underlying26 (by kernel_rfl) ?_) | (refine wpQuiet_load_frG (by rfl) 26 24 _ rfl _ rfl (by first | exact bA | exact bB) Tryd.underlying26 (by kernel_rfl) ?_) | quiet_step (first | with_reducible exact Calls.regrown_of (cSB _)))
  refine wpQuiet_nil ?_
  intro w9 hb
  replace bA := bA.below hb bA.lt
  replace bB := bB.below hb bB.lt
  replace r9 := range_below r9 hb lt9
  replace lt9 := Nat.lt_of_lt_of_le lt9 hb.size
  replace h0 := grown_below h0 hb h0.size
  clear hb cSB r0 rT n0 nT f0 fT odu q1 i3 i4 i5
  clear w8 w7 w6
  have RF := Lib.hid (fun (k : Nat) (hk : k ≤ t) => (by have := range_part r9 (tab_get F (show k < t + 1 by omega)); rw [eFr_n] at this; exact this : w9.rangeAt b9 (o9 + k * 12) (FC (F k)).toList))
  clear r9
  go_wp2_with fail
  go_loopw [14] (fun i wr => ∃ k : Nat, k ≤ t + 1 ∧ i = .int .i64 k ∧ Below w9.heap.size w9 wr) (fun i _ => t + 1 - (intOf i).toNat)
  case atStart => exact ⟨0, by omega, rfl, Below.refl _ _⟩
  case round =>
    obtain ⟨k, hk, rfl, hw⟩ := hrel
    have bA1 := bA.below hw bA.lt
    have bB1 := bB.below hw bB.lt
    have lt1 := Nat.lt_of_lt_of_le lt9 hw.size
    have h1 := grown_below h0 hw h0.size
    by_cases hkt : k ≤ t
    · have rk := range_below (RF.out k hkt) hw lt9
      have d1 : ((k : Int) ≤ (t : Int)) = True := by simp; omega
      have i1k : ((k : Int) < 0) = False := by simp
      have i2k : (k : Int).toNat = k := Int.toNat_natCast k
      have i3k : (k < t + 1) = True := by simp; omega
      have i4k : ((k : Int) < (t : Int) + 1) = True := by simp; omega
      obtain ⟨P, hP⟩ : ∃ P : Nat, D * k = P := ⟨_, rfl⟩
      have hPl : P ≤ 192 * 10 := by rw [← hP]; exact Nat.mul_le_mul hDl (by omega)
      obtain ⟨q, hq⟩ : ∃ q : Nat, P / t = q := ⟨_, rfl⟩
      have hql : q ≤ D := by
        rw [← hq, ← hP]
        exact Nat.div_le_of_le_mul (by rw [Nat.mul_comm t]; exact Nat.mul_le_mul_left _ hkt)
      obtain ⟨L, hL⟩ : ∃ L : Nat, D - q = L := ⟨_, rfl⟩
      have cAT := CAT.out k hkt wr h1
      have cDG := CDG.out k hkt
      have cDL := CDL.out k hkt
      rw [hP, hq] at cDG cDL
      rw [hL] at cDL
      have kp : (D : Int) * (k : Int) = (P : Int) := by rw [← hP]; simp
      have kw : IntKind.i64.wrap (P : Int) = (P : Int) := i64_le (Nat.le_trans hPl (by decide))
      have kd : (P : Int) / (t : Int) = (q : Int) := by rw [← hq]; simp
      have kdt : (P : Int).tdiv (t : Int) = (q : Int) := by rw [Int.tdiv_eq_ediv_of_nonneg (by omega)]; exact kd
      have kqw : IntKind.i64.wrap (q : Int) = (q : Int) := i64_le (Nat.le_trans hql (Nat.le_trans hDl (by decide)))
      have kqw2 : wrap64 (q : Int) = (q : Int) := w64_le (Nat.le_trans hql (Nat.le_trans hDl (by decide)))
      have tz : t ≠ 0 := Nat.pos_iff_ne_zero.mp t1
      have kz : ((t : Int) = 0) = False := eq_false (fun h => tz (Int.ofNat.inj h))
      have kz2 : ((t : Int) == 0) = false := by simp [tz]
      have kz3 : (t = 0) = False := eq_false tz
      clear tz
      have kl : (D : Int) - (q : Int) = (L : Int) := by rw [← hL]; exact (Int.ofNat_sub hql).symm
      have klw : IntKind.i64.wrap (L : Int) = (L : Int) := i64_le (by rw [← hL]; exact Nat.le_trans (Nat.sub_le _ _) (Nat.le_trans hDl (by decide)))
      have nK : ∀ w, (binOp .neq 26 (.agg (FC (F k))) (.agg (FC (F k)))).run Tryd.prog w = .ok (.bool false) w := fun w => by rw [NE.out, eqF_refl]; rfl
      have HKT := Lib.hid hkt
      clear hP hq hL hkt hql hPl
      go_wp2_with (refine wpList_load_fr rfl 26 24 _ rfl _ rfl (by first | exact bA1 | exact bB1) Tryd.underlying26 (by kernel_rfl) ?_)
      refine cAT.mono ?_
      rintro e w10 ⟨rfl, hb⟩
      replace bA1 := bA1.below hb bA1.lt
      replace bB1 := bB1.below hb bB1.lt
      replace rk := range_below rk hb lt1
      replace lt1 := Nat.lt_of_lt_of_le lt1 hb.size
      replace hw := grown_below hw hb hw.size
      clear hb cAT h1
      have bK := Blk.new w10 26 (F k)
      replace bA1 := bA1.alloc (.cells (FC (F k)) 26)
      replace bB1 := bB1.alloc (.cells (FC (F k)) 26)
      have hal := (Below.refl w10.heap.size w10).alloc (Nat.le_refl _) (.cells (FC (F k)) 26)
      replace rk := range_below rk hal lt1
      replace lt1 := Nat.lt_of_lt_of_le lt1 hal.size
      replace hw := grown_below hw hal hw.size
      clear hal
      go_wp2_with (refine wpList_store_new (f0 := zeroF) (f := F k) rfl 26 _ _ rfl rfl rfl (by kernel_rfl) ?_)
      generalize hgk : w10.heap.size = gk at *
      generalize w10.alloc _ = w11 at *
      clear hgk
      clear w10
      refine wp_region_calm (by kernel_rfl) (by kernel_rfl) ?_
      repeat (first | (refine wpQuiet_load_atG (by rfl) 26 24 _ rfl _ _ rfl (by exact rk) lt1 Tryd.underlying26 (by kernel_rfl) ?_) | (refine wpQuiet_load_frG (by rfl) 26 24 _ rfl _ rfl (by first | exact bA1 | exact bB1 | exact bK) Tryd.underlying26 (by kernel_rfl) ?_) | quiet_step (first | with_reducible exact Calls.regrown_of (cDG _)))
      refine wpQuiet_nil ?_
      intro w12 hb
      replace bA1 := bA1.below hb bA1.lt
      replace bB1 := bB1.below hb bB1.lt
      replace bK := bK.below hb bK.lt
      replace rk := range_below rk hb lt1
      replace lt1 := Nat.lt_of_lt_of_le lt1 hb.size
      replace hw := grown_below hw hb hw.size
      clear hb
      go_wp2_with fail
      refine wp_region_calm (by kernel_rfl) (by kernel_rfl) ?_
      repeat (first | (refine wpQuiet_load_atG (by rfl) 26 24 _ rfl _ _ rfl (by exact rk) lt1 Tryd.underlying26 (by kernel_rfl) ?_) | (refine wpQuiet_load_frG (by rfl) 26 24 _ rfl _ rfl (by first | exact bA1 | exact bB1 | exact bK) Tryd.underlying26 (by kernel_rfl) ?_) | quiet_step (first | with_reducible exact Calls.regrown_of (cDL _)))
      refine wpQuiet_nil ?_
      intro w13 hb
      replace bA1 := bA1.below hb bA1.lt
      replace bB1 := bB1.below hb bB1.lt
      replace bK := bK.below hb bK.lt
      replace rk := range_below rk hb lt1
      replace lt1 := Nat.lt_of_lt_of_le lt1 hb.size
      replace hw := grown_below hw hb hw.size
      clear hb
      go_wp2_with fail
      refine wp_region_calm (by kernel_rfl) (by kernel_rfl) ?_
      repeat (first | (refine wpQuiet_load_atG (by rfl) 26 24 _ rfl _ _ rfl (by exact rk) lt1 Tryd.underlying26 (by kernel_rfl) ?_) | (refine wpQuiet_load_frG (by rfl) 26 24 _ rfl _ rfl (by first | exact bA1 | exact bB1 | exact bK) Tryd.underlying26 (by kernel_rfl) ?_) | quiet_step (fail))
      refine wpQuiet_nil ?_
      intro w14 hb
      replace hw := grown_below hw hb hw.size
      clear hb
      go_wp2
      go_roundw
      case rel =>
        go_light
        exact ⟨k + 1, by have := HKT.out; omega, by go_num, hw⟩
      case measure =>
        have hk2 := HKT.out
        simp [intOf]
        omega
    · have d1 : ((k : Int) ≤ (t : Int)) = False := by simp; omega
      have e1 : ∀ w, (binOp .eql 26 (.agg (FC H)) (.agg (FC H))).run Tryd.prog w = .ok (.bool true) w := fun w => by rw [EQ.out, eqF_refl]
      have e2 : ∀ w, (binOp .eql 26 (.agg (FC J)) (.agg (FC H))).run Tryd.prog w = .ok (.bool true) w := fun w => by rw [EQ.out, mH]
      clear CAT CDG CDL RF NE EQ mH hkt
      go_wp2_with (refine wpList_load_fr rfl 26 24 _ rfl _ rfl (by first | exact bA1 | exact bB1) Tryd.underlying26 (by kernel_rfl) ?_)
      refine (CMI.out _ h1).mono ?_
      rintro e w10 ⟨rfl, hb⟩
      replace bA1 := bA1.below hb bA1.lt
      replace bB1 := bB1.below hb bB1.lt
      replace h1 := grown_below h1 hb h1.size
      clear hb CMI
      have bM := Blk.new w10 26 H
      replace bA1 := bA1.alloc (.cells (FC H) 26)
      replace bB1 := bB1.alloc (.cells (FC H) 26)
      replace h1 := h1.alloc h1.size (.cells (FC H) 26)
      go_wp2_with (first | (refine wpList_store_new (f0 := zeroF) (f := H) rfl 26 _ _ rfl rfl rfl (by kernel_rfl) ?_; generalize w10.heap.size = gM at *; generalize w10.alloc _ = w11 at *; clear w10) | (refine wpList_load_fr rfl 26 24 _ rfl _ rfl (by first | exact bA1 | exact bB1) Tryd.underlying26 (by kernel_rfl) ?_))
      refine (CA2.out _ h1).mono ?_
      rintro e w12 ⟨rfl, hb⟩
      replace bA1 := bA1.below hb bA1.lt
      replace bB1 := bB1.below hb bB1.lt
      replace bM := bM.below hb bM.lt
      replace h1 := grown_below h1 hb h1.size
      clear hb CA2
      have bN := Blk.new w12 26 H
      replace bA1 := bA1.alloc (.cells (FC H) 26)
      replace bB1 := bB1.alloc (.cells (FC H) 26)
      replace bM := bM.alloc (.cells (FC H) 26)
      replace h1 := h1.alloc h1.size (.cells (FC H) 26)
      go_wp2_with (first | (refine wpList_store_new (f0 := zeroF) (f := H) rfl 26 _ _ rfl rfl rfl (by kernel_rfl) ?_; generalize w12.heap.size = gN at *; generalize w12.alloc _ = w13 at *; clear w12) | (refine wpList_load_fr rfl 26 24 _ rfl _ rfl (by first | exact bA1 | exact bB1 | exact bN) Tryd.underlying26 (by kernel_rfl) ?_))
      refine (CMJ.out _).mono ?_
      rintro e w14 ⟨rfl, hb⟩
      replace bM := bM.below hb bM.lt
      replace bN := bN.below hb bN.lt
      replace h1 := grown_below h1 hb h1.size
      clear hb CMJ
      have bJ := Blk.new w14 26 J
      replace bM := bM.alloc (.cells (FC J) 26)
      replace bN := bN.alloc (.cells (FC J) 26)
      replace h1 := h1.alloc h1.size (.cells (FC J) 26)
      clear bA1 bB1
      go_wp2_with (first | (refine wpList_store_new (f0 := zeroF) (f := J) rfl 26 _ _ rfl rfl rfl (by kernel_rfl) ?_; generalize w14.heap.size = gJ at *; generalize w14.alloc _ = w15 at *; clear w14) | (with_reducible refine reg22 bM bN bJ e1 e2 ?_) | (refine reg22 bM bN bJ e1 e2 ?_))
      go_ret
      exact ⟨rfl, h1⟩
end Go.Proofs.YtajlkleoincoeacDoor.wFnMorphs
