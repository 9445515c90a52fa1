/-
  WHAT NetCarries STANDS ON: its operations in memory and as an argument; keys; counts in a map; what holds from step to step.
-/
import Derived.Test.YtamahknnppjegaaNetArgs
import Derived.Test.YtamahknnppjegaaNetDMsg
import Derived.Test.YtamahknnppjegaaNetLive
import Derived.Test.YtamahknnppjegaaNetReadP
import Derived.Test.YtamahknnppjegaaGMap
import Derived.Maps.RangeWalk
namespace Go.Proofs.Ytamahknnppjegaa
open Go.RowKit Mem Box GM
namespace Net
open Wire (B8)

/-! ### Operations -/
structure Ox where
  d : Int
  i : Int
  L : Option Addr
  n : Nat
  c : Nat
  l : List Mx
def cellsO (x : Ox) : List Value := [.int .i64 x.d, .int .i64 x.i, .slice x.L x.n x.c]
def oxv (x : Ox) : Value := .agg #[.int .i64 x.d, .int .i64 x.i, .slice x.L x.n x.c]
abbrev OpAt (w : World) (x : Ox) : Prop := NetAt w x.L x.n x.c x.l
structure OpsAt (w : World) (A : Option Addr) (n c : Nat) (l : List Ox) : Prop where
  row : RowS cellsO 3 w A n c l
  at_ : ∀ x ∈ l, OpAt w x
section
variable {w w' : World} {A : Option Addr} {n c : Nat} {l : List Ox}
theorem OpsAt.below (h : OpsAt w A n c l) (hb : Below w.heap.size w w') : OpsAt w' A n c l := ⟨h.row.below hb, fun x hx => (h.at_ x hx).below hb⟩
theorem OpsAt.get (h : OpsAt w A n c l) {i : Nat} (hi : i < n) : ∃ x, l[i]? = some x ∧ OpAt w x := by
  obtain ⟨x, hx⟩ := h.row.get hi
  exact ⟨x, hx, h.at_ x (List.mem_of_getElem? hx)⟩
theorem OpsAt.cells (h : OpsAt w A n c l) {i : Nat} {x : Ox} (hx : l[i]? = some x) : ∃ b o, A = some ⟨b, o, none⟩ ∧ ∀ W : World, Below w.heap.size w W →
    W.cell? ⟨b, o + i * 3, none⟩ = some (.int .i64 x.d) ∧ W.cell? ⟨b, o + i * 3 + 1, none⟩ = some (.int .i64 x.i) ∧ W.cell? ⟨b, o + i * 3 + 2, none⟩ = some (.slice x.L x.n x.c) := by
  obtain ⟨b, o, e, hb, hc⟩ := h.row.elem hx
  refine ⟨b, o, e, fun W hW => ?_⟩
  have hh := hc W (hW.block b hb)
  exact ⟨hh 0 _ rfl, hh 1 _ rfl, hh 2 _ rfl⟩
end
abbrev OBox (w : World) (g : Nat) (x : Ox) : Prop := Cells w g 35 #[.int .i64 x.d, .int .i64 x.i, .slice x.L x.n x.c]
theorem OBox.cells {w : World} {g : Nat} {x : Ox} (h : OBox w g x) : w.cell? ⟨g, 0, none⟩ = some (.int .i64 x.d) ∧ w.cell? ⟨g, 1, none⟩ = some (.int .i64 x.i) ∧ w.cell? ⟨g, 2, none⟩ = some (.slice x.L x.n x.c) := ⟨Cells.cell h 0, Cells.cell h 1, Cells.cell h 2⟩

/-! ### Keys and counts -/
abbrev Kb := List B8
def keyP (p : Mp) : Kb := bytesM p
def mkS (l : Kb) : Value := .string (str l)
def okS (s : Kb) : Prop := s.length ≤ 100000
theorem str_size (s : Kb) : (str s).size = s.length := by unfold str strOfNums; simp [ByteArray.size]
def btI (z : Int) : Value := .int .i64 z
def btB (b : Bool) : Value := .bool b
theorem kyS : Ky Try.prog 9 mkS okS := ky_keyed (Maps.string_keyed Try.underlying9) (fun {a b} h => by
  unfold mkS at h
  injection h with h
  exact str_inj h) (fun x hx => ⟨_, WideMaps.keyOf_string_mk (P := Try.prog) Try.underlying9 (by rw [str_size]; unfold okS at hx; simp only [maxLen]; omega)⟩)
theorem okS_key {p : Mp} (h : okM p = true) (hf : Fits p) : okS (keyP p) := Nat.le_trans (bytes_len h hf) (by omega)
abbrev MI (w : World) (r : Nat) (ks : List (Kb × Int)) : Prop := FMap mkS okS btI w r ks
abbrev MB (w : World) (r : Nat) (ks : List (Kb × Bool)) : Prop := FMap mkS okS btB w r ks
def cv (ks : List (Kb × Int)) (s : Kb) : Int := (getB ks s).getD 0
def dv (ks : List (Kb × Bool)) (s : Kb) : Bool := (getB ks s).getD false
/-- The map has these counts. -/
structure Ct (ks : List (Kb × Int)) (f : Kb → Nat) : Prop where
  cv : ∀ s, cv ks s = (f s : Int)
  pos : ∀ e ∈ ks, 0 < e.2
  kn : KN ks
theorem Ct.nil : Ct [] (fun _ => 0) := ⟨fun _ => rfl, by simp, trivial⟩
def inc (f : Kb → Nat) (k : Kb) (s : Kb) : Nat := f s + (if s = k then 1 else 0)
theorem mem_set {V : Type} {ks : List (Kb × V)} (hk : KN ks) {n : Kb} {v : V} {e : Kb × V} (h : e ∈ setB ks n v) : e = (n, v) ∨ e ∈ ks := by
  have h1 := mem_get (kn_set hk n v) h
  rw [get_set] at h1
  split at h1
  · rename_i h2
    injection h1 with h1
    exact .inl (Prod.ext h2 h1.symm)
  · exact .inr (get_mem h1)
theorem Ct.more {ks : List (Kb × Int)} {f : Kb → Nat} (h : Ct ks f) (k : Kb) : Ct (setB ks k ((f k : Int) + 1)) (inc f k) := by
  refine ⟨fun s => ?_, fun e he => ?_, kn_set h.kn _ _⟩
  · unfold Net.cv inc
    rw [get_set]
    by_cases hs : s = k
    · subst hs; simp
    · rw [if_neg hs, if_neg hs]
      have := h.cv s
      unfold Net.cv at this
      rw [this]; simp
  · rcases mem_set h.kn he with rfl | he
    · show 0 < _; omega
    · exact h.pos e he
theorem Ct.mem {ks : List (Kb × Int)} {f : Kb → Nat} (h : Ct ks f) {e : Kb × Int} (he : e ∈ ks) : e.2 = (f e.1 : Int) ∧ 0 < f e.1 := by
  have h1 := mem_get h.kn he
  have h2 := h.cv e.1
  have h3 := h.pos e he
  unfold Net.cv at h2
  rw [h1] at h2
  simp only [Option.getD_some] at h2
  omega
theorem dv_set (ks : List (Kb × Bool)) (k s : Kb) : dv (setB ks k true) s = (dv ks s || decide (s = k)) := by
  unfold dv
  rw [get_set]
  by_cases h : s = k <;> simp [h]
/-- How often a key's message is among these. -/
def cnt (l : List Mp) (s : Kb) : Nat := (l.map keyP).count s
theorem cnt_app (a b : List Mp) (s : Kb) : cnt (a ++ b) s = cnt a s + cnt b s := by unfold cnt; rw [List.map_append, List.count_append]
theorem cnt_one (x : Mp) (s : Kb) : cnt [x] s = if s = keyP x then 1 else 0 := by
  unfold cnt
  simp only [List.map_cons, List.map_nil, List.count_singleton]
  by_cases h : keyP x = s
  · simp [h]
  · rw [if_neg (by simpa using h), if_neg (fun e => h e.symm)]
theorem cnt_le (l : List Mp) (s : Kb) : cnt l s ≤ l.length := by unfold cnt; exact Nat.le_trans List.count_le_length (by simp)
theorem cnt_snoc {l : List Mp} {k : Nat} {x : Mp} (h : l[k]? = some x) (s : Kb) : cnt (l.take (k + 1)) s = cnt (l.take k) s + (if s = keyP x then 1 else 0) := by
  rw [List.take_add_one, h, ← cnt_one, ← cnt_app]; rfl
theorem cnt_split {l : List Mp} {j : Nat} {x : Mp} (h : l[j]? = some x) (s : Kb) : cnt l s = cnt (l.eraseIdx j) s + (if s = keyP x then 1 else 0) := by
  have hj := (List.getElem?_eq_some_iff.1 h).1
  have hx : l[j] = x := (List.getElem?_eq_some_iff.1 h).2
  have e : l = l.take j ++ ([x] ++ l.drop (j + 1)) := by
    rw [← hx]
    simp
  rw [List.eraseIdx_eq_take_drop_succ, cnt_app, ← cnt_one]
  conv => lhs; rw [e, cnt_app, cnt_app]
  omega
theorem cnt_filter (q : Mp → Bool) (l : List Mp) (s : Kb) : cnt (l.filter q) s ≤ cnt l s := by
  unfold cnt
  exact List.Sublist.count_le s ((List.filter_sublist (l := l)).map _)
theorem send_cnt (cap : Nat) (q l : List Mp) : (sendP cap q l).length ≤ q.length + l.length := by
  unfold sendP
  induction l generalizing q with
  | nil => simp
  | cons m l ih =>
    rw [List.foldl_cons]
    have h1 := ih (pushP cap q m)
    have h2 : (pushP cap q m).length ≤ q.length + 1 := by
      unfold pushP
      rcases (okM m && decide (q.length < cap)) <;> simp
    rw [List.length_cons]
    omega
/-- What holds behind every operation. -/
structure Inv (N : List Mp) (S : Kb → Nat) (D : List (Kb × Bool)) (O : Kb → Nat) : Prop where
  ok : ∀ p ∈ N, okM p = true
  le : ∀ s, dv D s = false → O s + cnt N s ≤ S s
  pos : ∀ s, 0 < O s + cnt N s → 0 < S s
theorem Inv.nil : Inv [] (fun _ => 0) [] (fun _ => 0) := ⟨by simp, fun s _ => by simp [cnt], fun s h => by simp [cnt] at h⟩
section
variable {N : List Mp} {S : Kb → Nat} {D : List (Kb × Bool)} {O : Kb → Nat}
/-- Send. -/
theorem Inv.sent (h : Inv N S D O) {r : List Mp} (hr : ∀ m ∈ r, okM m = true) : Inv (N ++ r) (fun s => S s + cnt r s) D O := by
  refine ⟨fun p hp => ?_, fun s hs => ?_, fun s hs => ?_⟩
  · rcases List.mem_append.1 hp with hp | hp
    · exact h.ok p hp
    · exact hr p hp
  · have := h.le s hs
    rw [cnt_app]
    omega
  · rw [cnt_app] at hs
    have := h.pos s
    show 0 < S s + cnt r s
    omega
/-- Take. -/
theorem Inv.took (h : Inv N S D O) {j : Nat} {x : Mp} (hx : N[j]? = some x) : Inv (N.eraseIdx j) S D (inc O (keyP x)) := by
  refine ⟨fun p hp => h.ok p ((List.eraseIdx_sublist _ _).subset hp), fun s hs => ?_, fun s hs => ?_⟩
  · have h1 := h.le s hs
    have h2 := cnt_split hx s
    unfold inc
    omega
  · have h1 := h.pos s
    have h2 := cnt_split hx s
    unfold inc at hs
    refine h1 (by omega)
/-- Fewer. -/
theorem Inv.less (h : Inv N S D O) {N' : List Mp} (hs : ∀ p ∈ N', p ∈ N) (hc : ∀ s, cnt N' s ≤ cnt N s) : Inv N' S D O :=
  ⟨fun p hp => h.ok p (hs p hp), fun s hd => by have := h.le s hd; have := hc s; omega, fun s hd => h.pos s (by have := hc s; omega)⟩
/-- One more is marked. -/
theorem Inv.mark (h : Inv N S D O) (k : Kb) : Inv N S (setB D k true) O :=
  ⟨h.ok, fun s hd => h.le s (by rw [dv_set] at hd; simp at hd; exact hd.1), h.pos⟩
/-- One that is marked and is there comes a second time. -/
theorem Inv.twice (h : Inv N S D O) {j : Nat} {x : Mp} (hx : N[j]? = some x) (hd : dv D (keyP x) = true) : Inv (N ++ [x]) S D O := by
  refine ⟨fun p hp => ?_, fun s hs => ?_, fun s hs => ?_⟩
  · rcases List.mem_append.1 hp with hp | hp
    · exact h.ok p hp
    · rw [List.mem_singleton.1 hp]; exact h.ok x (List.mem_of_getElem? hx)
  · have h1 := h.le s hs
    rw [cnt_app, cnt_one]
    by_cases e : s = keyP x
    · subst e; rw [hd] at hs; cases hs
    · rw [if_neg e]; omega
  · rw [cnt_app, cnt_one] at hs
    refine h.pos s ?_
    by_cases e : s = keyP x
    · subst e
      have := cnt_split hx (keyP x)
      rw [if_pos rfl] at this
      omega
    · rw [if_neg e] at hs; omega
/-- Later. -/
theorem Inv.later (h : Inv N S D O) {j : Nat} {x : Mp} (hx : N[j]? = some x) : Inv (N.eraseIdx j ++ [x]) S D O :=
  h.less (fun p hp => by
    rcases List.mem_append.1 hp with hp | hp
    · exact (List.eraseIdx_sublist _ _).subset hp
    · rw [List.mem_singleton.1 hp]; exact List.mem_of_getElem? hx) (fun s => by
    rw [cnt_app, cnt_one]
    have := cnt_split hx s
    omega)
end
/-- The measure of a loop over a map. -/
theorem rng_left {V : Type} {bt : V → Value} {w : World} {r q : Nat} {ks rest : List (Kb × V)} (h : Rng mkS okS bt w r q ks rest) : w.rangeLeft r q = rest.length := by
  obtain ⟨es, clock, since, seen, c0, h1, -, -, -, h5, -, -, -, h8⟩ := h.it
  simp only [World.rangeLeft, h1, h5]
  have := h8.length
  simpa using this
theorem zero_int (w : World) : (zeroValue 3).run Try.prog w = .ok (.int .i64 0) w := by kernel_rfl
theorem zero_bool (w : World) : (zeroValue 4).run Try.prog w = .ok (.bool false) w := by kernel_rfl
theorem getI {w : World} {r : Nat} {ks : List (Kb × Int)} (h : MI w r ks) {s : Kb} (hs : okS s) : (Instr.lookup 48 (.map (some r)) (.string (str s)) false).run Try.prog w = .ok (.int .i64 (cv ks s)) w := by
  have := GM.run_get kyS Try.underlying48 h (zero_int w) (n := s) hs
  refine this.trans ?_
  unfold cv
  rcases getB ks s <;> rfl
theorem getD_ {w : World} {r : Nat} {ks : List (Kb × Bool)} (h : MB w r ks) {s : Kb} (hs : okS s) : (Instr.lookup 49 (.map (some r)) (.string (str s)) false).run Try.prog w = .ok (.bool (dv ks s)) w := by
  have := GM.run_get kyS Try.underlying49 h (zero_bool w) (n := s) hs
  refine this.trans ?_
  unfold dv
  rcases getB ks s <;> rfl
theorem putI {w : World} {r : Nat} {ks : List (Kb × Int)} (h : MI w r ks) {s : Kb} (hs : okS s) (v : Int) : ∃ w', (Instr.mapUpdate 48 (.map (some r)) (.string (str s)) (.int .i64 v)).run Try.prog w = .ok () w' ∧ MI w' r (setB ks s v) ∧ Mov [r] w w' ∧ w'.heap.size = w.heap.size :=
  GM.run_put kyS Try.underlying48 h (n := s) hs v
theorem putD {w : World} {r : Nat} {ks : List (Kb × Bool)} (h : MB w r ks) {s : Kb} (hs : okS s) (v : Bool) : ∃ w', (Instr.mapUpdate 49 (.map (some r)) (.string (str s)) (.bool v)).run Try.prog w = .ok () w' ∧ MB w' r (setB ks s v) ∧ Mov [r] w w' ∧ w'.heap.size = w.heap.size :=
  GM.run_put kyS Try.underlying49 h (n := s) hs v
end Net
open Net
namespace Args
open Go.ChangeShapes Go.WideShapes Go.ChangeAt
variable {H : Type} {enc : TypeId × Value → H} {W : World}
set_option maxRecDepth 100000 in
/-- A slice of structs, as a cell. -/
theorem raw_rowS {α : Type} {cells : α → List Value} {k bytes : Nat} {p : α → Prop} {t e : TypeId} (hu : Try.prog.underlying t = some (.slice e)) (hC : Try.prog.cellsOf e = k) (hB : Try.prog.bytesOf e = bytes) (hb1 : 1 ≤ bytes) (hk : 0 < k)
    (raw : ∀ (fuel : Nat) (cs : List Value) (x : DataW H × List MemPlace), DataW.trod enc Try.prog W 0 (fun _ => true) true fuel e cs = some x → cs.length = k → (∀ q ∈ x.1.weights Try.prog e, q ≤ reachBytes) → ∃ v : α, cs = cells v ∧ p v)
    {fuel : Nat} {cs0 : List Value} {x0 : DataW H × List MemPlace} (hf : DataW.trod enc Try.prog W 0 (fun _ => true) true fuel t cs0 = some x0)
    (hs : ∀ q ∈ x0.1.weights Try.prog t, q ≤ reachBytes) : ∃ A n c xs, cs0 = [.slice A n c] ∧ RowS cells k W A n c xs ∧ ∀ x ∈ xs, p x := by
  rcases Go.Deep.open_slice hu hf with ⟨hcs, _⟩ | ⟨a, len0, cap0, m, n, D, Pl, hcs, hb, hl, hm, hmm, hx, hi⟩
  · exact ⟨none, 0, 0, [], hcs, RowS.nil _ _ _, by simp⟩
  · simp only [if_true] at hmm
    subst hmm
    subst hx
    have hw := hs ((len0 + (m - len0)) * bytes) (by simp [DataW.weights, hu, hB])
    have hbig : len0 ≤ 140737488351232 := by
      simp only [reachBytes] at hw
      have : len0 * 1 ≤ (len0 + (m - len0)) * bytes := Nat.mul_le_mul (by omega) hb1
      omega
    rcases Nat.eq_zero_or_pos len0 with h0 | h0
    · subst h0
      exact ⟨_, 0, m, [], hcs, ⟨rfl, by omega, by omega, fun h => absurd h (by omega)⟩, by simp⟩
    · have hex : ∀ i, i < len0 → ∃ v : α, (∀ j u, (cells v)[j]? = some u → W.cell? (a.add (i * k + j)) = some u) ∧ p v ∧ (cells v).length = k := by
        intro i hil
        obtain ⟨cs', hc, ht⟩ := hi i (by omega)
        rw [hC] at hc
        obtain ⟨_, hcl, hat⟩ := World.cells?_some hc
        obtain ⟨v, rfl, hp⟩ := raw _ _ _ ht hcl (fun q hq => by
          refine hs q ?_
          simp only [DataW.weights, hu, List.mem_cons, List.mem_append]
          exact .inr (.inl (weights_of _ _ (List.mem_map.2 ⟨i, List.mem_range.2 hil, rfl⟩) q hq)))
        refine ⟨v, fun j u hj => ?_, hp, hcl⟩
        have hjl : j < k := by have := (List.getElem?_eq_some_iff.1 hj).1; omega
        rw [← Go.Deep.add_add, hat j hjl, hj]
      obtain ⟨f, hf⟩ := Classical.axiomOfChoice (r := fun (i : Fin len0) (v : α) => (∀ j u, (cells v)[j]? = some u → W.cell? (a.add (i.1 * k + j)) = some u) ∧ p v ∧ (cells v).length = k) (fun i => hex i.1 i.2)
      obtain ⟨b, o, s⟩ := a
      obtain ⟨u0, hu0⟩ : ∃ u, (cells (f ⟨0, h0⟩))[0]? = some u := ⟨_, List.getElem?_eq_getElem (by have := (hf ⟨0, h0⟩).2.2; omega)⟩
      have hc0 := (hf ⟨0, h0⟩).1 0 _ hu0
      have hsp : s = none := by simpa [Addr.add] using World.cell?_spot hc0
      subst hsp
      have hblk : b < W.heap.size := World.block_lt_of_cell? W ⟨b, o, none⟩ (by simpa [Addr.add] using hc0)
      refine ⟨_, len0, m, List.ofFn f, hcs, ⟨by simp, by omega, hbig, fun _ => ⟨b, o, rfl, hblk, fun i x hx j u hu => ?_⟩⟩, fun x hx => ?_⟩
      · rw [List.getElem?_ofFn] at hx
        split at hx
        · rename_i hil
          simp only [Option.some.injEq] at hx
          subst hx
          have := (hf ⟨i, hil⟩).1 j u hu
          rw [add_none] at this
          rwa [Nat.add_assoc]
        · cases hx
      · obtain ⟨i, rfl⟩ := List.mem_ofFn.1 hx
        exact (hf i).2.1

set_option maxRecDepth 100000 in
/-- An operation's three cells. -/
theorem raw_opN {fuel : Nat} {cs : List Value} {x : DataW H × List MemPlace} (hf : DataW.trod enc Try.prog W 0 (fun _ => true) true fuel 35 cs = some x) (hl : cs.length = 3) (hs : ∀ q ∈ x.1.weights Try.prog 35, q ≤ reachBytes) :
    ∃ v : Ox, cs = cellsO v ∧ OpAt W v := by
  have hu := Try.underlying35
  match cs, hl with
  | [c0, c1, c2], _ =>
    obtain ⟨xs, n, _, hx, _, hlen, hg⟩ := DataW.trod_struct hu hf
    have hxl : xs.length = 3 := hlen
    match xs, hxl with
    | [y0, y1, y2], _ =>
      have o3 : Try.prog.cellsOf 3 = 1 := by kernel_rfl
      have o26 : Try.prog.cellsOf 26 = 1 := by kernel_rfl
      have g0 := hg 0 _ rfl
      have g1 := hg 1 _ rfl
      have g2 := hg 2 _ rfl
      simp [o3, o26] at g0 g1 g2
      obtain ⟨k, hk, -, wk⟩ := DataW.trod_int Try.underlying3 g0
      obtain ⟨f, hf1, -, wf⟩ := DataW.trod_int Try.underlying3 g1
      simp only [List.cons.injEq, and_true] at hk hf1
      subst hk hf1
      subst hx
      obtain ⟨A, na, ca, za, h4, r4, w4⟩ := raw_rowS (cells := cellsM) (k := 6) (bytes := 80) (p := MAt W) Try.underlying26 (by kernel_rfl) (by kernel_rfl) (by omega) (by omega) (fun _ _ _ h1 h2 h3 => raw_msg h1 h2 h3) g2 (fun q hq => by
        refine hs q ?_
        simp only [DataW.weights, hu]
        exact DataW.weights_mem_each (j := 2) rfl rfl q hq)
      simp only [List.cons.injEq, and_true] at h4
      subst h4
      exact ⟨⟨k, f, A, na, ca, za⟩, rfl, r4, w4⟩
set_option maxRecDepth 100000 in
theorem open_opsN {v : Value} {d : DataW H} {p : List MemPlace} {base : Nat} (hok : Value.okWide Try.prog W .any base 22 v) (h : DataW.Trod enc Try.prog W 0 (fun _ => true) true 22 v d p)
    (hs : ∀ q ∈ d.weights Try.prog 22, q ≤ reachBytes) : ∃ A n c xs, v = .slice A n c ∧ OpsAt W A n c xs := by
  obtain ⟨A, n, c, xs, h1, h2, h3⟩ := open_rowS (cells := cellsO) (k := 3) (bytes := 40) (p := OpAt W) Try.underlying22 (by kernel_rfl) (by kernel_rfl) (by omega) (by omega) (fun fuel cs x hf hl hw => raw_opN hf hl hw) hok h hs
  exact ⟨A, n, c, xs, h1, h2, h3⟩
end Args
namespace Net
open Wire (B8)

set_option maxRecDepth 100000 in
set_option maxHeartbeats 1600000 in
theorem few_any {w : World} {M : Option Addr} {m e : Nat} {ls : List Ox} (h : OpsAt w M m e ls) :
    Calls Try.prog 10 #[.slice M m e] w fun en w' => (∃ b, en = .returned (.bool b) ∧ (b = true → m ≤ 100)) ∧ Below w.heap.size w w' := by
  have HM := Lib.hid h
  have hbig := h.row.big
  clear h
  go_enter Try.func10, Try.ntmps10
  go_wp2
  go_loopw [4, 7] (fun _ i wr => ∃ (k : Nat), i = .int .i64 k ∧ k ≤ m ∧ Hid (Below w.heap.size w wr)) (fun _ i _ => m - (intOf i).toNat)
  case atStart => exact ⟨0, rfl, by omega, Below.refl _ _⟩
  case round =>
    obtain ⟨k, rfl, hk, hL⟩ := hrel
    by_cases hlt : k < m
    · obtain ⟨x, hx, hxm⟩ := HM.out.get hlt
      obtain ⟨b2, o2, hQ, hcs⟩ := HM.out.cells hx
      subst hQ
      obtain ⟨c0, c1, c2⟩ := hcs wr hL.out
      have hk0 : (0 : Int) ≤ (k : Int) := by omega
      have hkm : (k : Int) < (m : Int) := by omega
      have A2 : Below wr.heap.size wr (wr.alloc (.cells #[.int .i64 x.d, .int .i64 x.i, .slice x.L x.n x.c] 35)) := (Below.refl _ wr).alloc (Nat.le_refl _) _
      have L2 := Lib.hid (hL.out.trans (A2.mono hL.out.size))
      have HB := Lib.hid (big_any (hxm.below L2.out))
      clear hx hxm hcs A2
      go_wp2_with fail
      refine HB.out.mono ?_
      rintro en w3 ⟨⟨b, rfl⟩, hb⟩
      have L3 := Lib.hid (L2.out.trans (hb.mono L2.out.size))
      clear hb HB
      rcases b
      · go_wp2_with fail
        go_roundw
        case rel => exact ⟨k + 1, by go_num, by omega, L3.out⟩
        case measure => simp [intOf]; omega
      · go_wp2_with fail
        go_ret
        exact ⟨⟨_, rfl, fun h => (by cases h)⟩, L3.out⟩
    · go_wp2_with fail
      go_ret
      refine ⟨⟨_, rfl, fun h => ?_⟩, hL.out⟩
      first | (simp at h; omega) | (have := of_decide_eq_true h; omega)

set_option maxRecDepth 100000 in
set_option maxHeartbeats 1600000 in
theorem key_any {x : Mx} {w : World} (h : MAt w x) (hk : okM x.p = true) : Calls Try.prog 25 #[mxv x] w fun en w' => en = .returned (.string (str (keyP x.p))) ∧ Below w.heap.size w w' := by
  have A1 : Hid (Below w.heap.size w (w.alloc (.cells #[.int .i64 x.k, .int .i64 x.f, .int .i64 x.t, .int .i64 x.i, .slice x.A x.n x.c, .slice x.B x.m x.d] 39))) := (Below.refl _ w).alloc (Nat.le_refl _) _
  have HD := Lib.hid (dmsg_ok (h.below A1.out) hk)
  have hlen := bytes_len hk h.fits
  unfold mxv at *
  clear h
  go_enter Try.func25, Try.ntmps25
  go_upto_region 2 with (first | (go_at_call 28; refine HD.out.mono ?_; rintro e w2 ⟨X, k, c, rfl, hO, hb⟩; have L2 := Lib.hid (A1.out.trans (hb.mono A1.out.size)); have R2 := Lib.hid hO; clear hb hO) | fail)
  have hst := run_str (Wire.gave_row R2.out (Nat.le_trans hlen (by omega))).1
  go_wp2_with fail
  go_ret
  exact ⟨rfl, L2.out⟩
end Net
end Go.Proofs.Ytamahknnppjegaa
