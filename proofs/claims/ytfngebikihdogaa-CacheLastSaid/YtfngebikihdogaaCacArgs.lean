/-
  A LAW'S ARGUMENTS: operations. WALKS: few, there. THE MAP of what was put last.
-/
import Derived.Test.YtfngebikihdogaaCacRoomP
import Derived.Laws.StructEq
import Derived.WideKeyPair
namespace Go.Proofs.Ytfngebikihdogaa
open Go.ChangeShapes Go.WideShapes Go.ChangeAt Go.RowKit Mem Box GM
namespace Cac
structure Ov where
  d : Int
  lba : Int
  ver : Int
  n : Int
  long : Bool
def cellsO (x : Ov) : List Value := [.int .i64 x.d, .int .i64 x.lba, .int .i64 x.ver, .int .i64 x.n, .bool x.long]
/-- An int of Go's. -/
def I64 (z : Int) : Prop := (Lit.int .i64 z).wf = true
theorem I64.le {z : Int} (h : I64 z) : -9223372036854775808 ≤ z ∧ z ≤ 9223372036854775807 := Args.i64_of h
def fitO (x : Ov) : Prop := I64 x.lba ∧ I64 x.ver ∧ I64 x.n
end Cac
namespace Args
variable {H : Type} {enc : TypeId × Value → H} {W : World}
set_option maxRecDepth 100000 in
theorem raw_op {fuel : Nat} {cs : List Value} {x : DataW H × List MemPlace} (hf : DataW.trod enc Try.prog W 0 (fun _ => true) true fuel 29 cs = some x) (hl : cs.length = 5) :
    ∃ v : Cac.Ov, cs = Cac.cellsO v ∧ Cac.fitO v := by
  have hu := Try.underlying29
  match cs, hl with
  | [c0, c1, c2, c3, c4], _ =>
    obtain ⟨xs, n, _, hx, _, hlen, hg⟩ := DataW.trod_struct hu hf
    have hxl : xs.length = 5 := hlen
    match xs, hxl with
    | [y0, y1, y2, y3, y4], _ =>
      have o3 : Try.prog.cellsOf 3 = 1 := by kernel_rfl
      have o4 : Try.prog.cellsOf 4 = 1 := by kernel_rfl
      have g0 := hg 0 _ rfl
      have g1 := hg 1 _ rfl
      have g2 := hg 2 _ rfl
      have g3 := hg 3 _ rfl
      have g4 := hg 4 _ rfl
      simp [o3] at g0 g1 g2 g3
      simp [o4] at g4
      obtain ⟨z0, h0, -, w0⟩ := DataW.trod_int Try.underlying3 g0
      obtain ⟨z1, h1, -, w1⟩ := DataW.trod_int Try.underlying3 g1
      obtain ⟨z2, h2, -, w2⟩ := DataW.trod_int Try.underlying3 g2
      obtain ⟨z3, h3, -, w3⟩ := DataW.trod_int Try.underlying3 g3
      obtain ⟨z4, h4, -⟩ := DataW.trod_bool Try.underlying4 g4
      simp only [List.cons.injEq, and_true] at h0 h1 h2 h3 h4
      subst h0 h1 h2 h3 h4
      exact ⟨⟨z0, z1, z2, z3, z4⟩, rfl, w1, w2, w3⟩
set_option maxRecDepth 100000 in
theorem open_ops {v : Value} {d : DataW H} {p : List MemPlace} {base : Nat} (hok : Value.okWide Try.prog W .any base 22 v) (h : DataW.Trod enc Try.prog W 0 (fun _ => true) true 22 v d p)
    (hs : ∀ q ∈ d.weights Try.prog 22, q ≤ reachBytes) : ∃ A n c xs, v = .slice A n c ∧ RowS Cac.cellsO 5 W A n c xs ∧ ∀ x ∈ xs, Cac.fitO x :=
  open_rowS (cells := Cac.cellsO) (k := 5) (bytes := 40) (p := Cac.fitO) Try.underlying22 (by kernel_rfl) (by kernel_rfl) (by omega) (by omega) (fun _ _ _ hf hl _ => raw_op hf hl) hok h hs
end Args
namespace Cac
/-- An operation in a block of its own. -/
abbrev OpBox (w : World) (q : Nat) (o : Ov) : Prop := Cells w q 29 #[.int .i64 o.d, .int .i64 o.lba, .int .i64 o.ver, .int .i64 o.n, .bool o.long]
theorem OpBox.cells {w : World} {q : Nat} {o : Ov} (h : OpBox w q o) : w.cell? ⟨q, 0, none⟩ = some (.int .i64 o.d) ∧ w.cell? ⟨q, 1, none⟩ = some (.int .i64 o.lba) ∧ w.cell? ⟨q, 2, none⟩ = some (.int .i64 o.ver) ∧ w.cell? ⟨q, 3, none⟩ = some (.int .i64 o.n) ∧ w.cell? ⟨q, 4, none⟩ = some (.bool o.long) :=
  ⟨Cells.cell h 0, Cells.cell h 1, Cells.cell h 2, Cells.cell h 3, Cells.cell h 4⟩
abbrev KeyBox (w : World) (q : Nat) (k : Key) : Prop := Cells w q 34 #[.int .i64 k.1, .int .i64 k.2]
theorem KeyBox.cells {w : World} {q : Nat} {k : Key} (h : KeyBox w q k) : w.cell? ⟨q, 0, none⟩ = some (.int .i64 k.1) ∧ w.cell? ⟨q, 1, none⟩ = some (.int .i64 k.2) := ⟨Cells.cell h 0, Cells.cell h 1⟩
theorem op_at {w : World} {A : Option Addr} {n c : Nat} {l : List Ov} (h : RowS cellsO 5 w A n c l) {i : Nat} {x : Ov} (hx : l[i]? = some x) :
    ∃ b o, A = some ⟨b, o, none⟩ ∧ w.cell? ⟨b, o + i * 5, none⟩ = some (.int .i64 x.d) ∧ w.cell? ⟨b, o + i * 5 + 1, none⟩ = some (.int .i64 x.lba) ∧ w.cell? ⟨b, o + i * 5 + 2, none⟩ = some (.int .i64 x.ver) ∧ w.cell? ⟨b, o + i * 5 + 3, none⟩ = some (.int .i64 x.n) ∧ w.cell? ⟨b, o + i * 5 + 4, none⟩ = some (.bool x.long) := by
  obtain ⟨b, o, e, -, hc⟩ := h.elem hx
  exact ⟨b, o, e, hc w rfl 0 _ rfl, hc w rfl 1 _ rfl, hc w rfl 2 _ rfl, hc w rfl 3 _ rfl, hc w rfl 4 _ rfl⟩
theorem key_at {w : World} {A : Option Addr} {n c : Nat} {l : List Key} (h : RowS cellsK 2 w A n c l) {i : Nat} {x : Key} (hx : l[i]? = some x) :
    ∃ b o, A = some ⟨b, o, none⟩ ∧ w.cell? ⟨b, o + i * 2, none⟩ = some (.int .i64 x.1) ∧ w.cell? ⟨b, o + i * 2 + 1, none⟩ = some (.int .i64 x.2) := by
  obtain ⟨b, o, e, -, hc⟩ := h.elem hx
  exact ⟨b, o, e, hc w rfl 0 _ rfl, hc w rfl 1 _ rfl⟩

/-! ### The map of what was put last -/
def mkP (k : Key) : Value := .agg #[.int .i64 k.1, .int .i64 k.2]
def okP (k : Key) : Prop := I64 k.1 ∧ I64 k.2
def btS (l : List (BitVec 8)) : Value := .string (str l)
theorem arrP : WideMaps.ArrKey Try.prog 34 3 2 := ⟨Try.underlying34, by kernel_rfl, by kernel_rfl, by kernel_rfl⟩
theorem typesP : ∃ m, Try.prog.types.size = m + 1 := ⟨_, show Try.prog.types.size = Try.prog.types.size - 1 + 1 by have : 0 < Try.prog.types.size := of_decide_eq_true (by kernel_rfl); omega⟩
theorem kyP : Ky Try.prog 34 mkP okP := ky_keyed (Maps.Keyed.of_law arrP.law) (fun {a b} h => by
  unfold mkP at h
  injection h with h
  have h := congrArg Array.toList h
  simp at h
  exact Prod.ext h.1 h.2) (fun x hx => ⟨_, WideMaps.keyOf_pair arrP Try.underlying3 typesP hx.1 hx.2⟩)
abbrev LastAt (w : World) (q : Nat) (ks : List (Key × List (BitVec 8))) : Prop := FMap mkP okP btS w q ks
theorem last_get {w : World} {q : Nat} {ks : List (Key × List (BitVec 8))} (h : LastAt w q ks) {k : Key} (hk : okP k) :
    ∃ z, (Instr.lookup 27 (.map (some q)) (mkP k) true).run Try.prog w = .ok (.tuple #[z, .bool (getB ks k).isSome]) w ∧ ∀ l, getB ks k = some l → z = .string (str l) := by
  have hz : (zeroValue 9).run Try.prog w = .ok (.string ByteArray.empty) w := by kernel_rfl
  refine ⟨_, GM.run_get_ok kyP Try.underlying27 h hz hk, fun l hl => ?_⟩
  rw [hl]; rfl
theorem last_put {w : World} {q : Nat} {ks : List (Key × List (BitVec 8))} (h : LastAt w q ks) {k : Key} (hk : okP k) (l : List (BitVec 8)) :
    ∃ w', (Instr.mapUpdate 27 (.map (some q)) (mkP k) (.string (str l))).run Try.prog w = .ok () w' ∧ LastAt w' q (setB ks k l) ∧ Mov [q] w w' ∧ w'.heap.size = w.heap.size :=
  GM.run_put kyP Try.underlying27 h hk l

/-! ### Keys compared -/
theorem key_guard : Try.prog.eqGuardType Try.prog.depth 34 = false := by kernel_rfl
theorem key_equal (a b c d : Int) (w : World) : (Op.equalIn 10000 34 (.agg #[.int .i64 a, .int .i64 b]) (.agg #[.int .i64 c, .int .i64 d])).run Try.prog w = .ok (a == c && b == d) w := by
  have u3 := Try.underlying3
  have a3 := Try.isAgg3
  have z3 := Try.sizeOf3
  rw [show (10000 : Nat) = 9999 + 1 from rfl, Op.equalIn]
  simp only [Sem.run_bind, run_underlying Try.underlying34, Result.andThen_ok]
  simp only [Std.Legacy.Range.forIn_eq_forIn_range', Std.Legacy.Range.size, Nat.sub_zero, Nat.add_sub_cancel, Nat.div_one, List.range'_succ, List.range'_zero, List.forIn_cons, List.forIn_nil]
  go_simp
  by_cases h1 : a = c <;> by_cases h2 : b = d <;> simp [h1, h2]
end Cac
end Go.Proofs.Ytfngebikihdogaa
