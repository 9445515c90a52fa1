/-
  WHAT A STEP GIVES, IN ONE: each of net's acts by a plain function that tells its net, its error; a message taken.
-/
import Derived.Test.YtamahknnppjegaaNetCarP
import Derived.Test.YtamahknnppjegaaNetSend
import Derived.Test.YtamahknnppjegaaNetDrop
namespace Go.Proofs.Ytamahknnppjegaa
open Go.RowKit Mem Box
namespace Net
open Wire (B8)
def zeroX : Mx := ⟨0, 0, 0, 0, none, 0, 0, [], none, 0, 0, []⟩
def zM : Mp := ⟨0, 0, 0, 0, [], []⟩
theorem zero_at (w : World) : MAt w zeroX := ⟨Row.nil _ _, Row.nil _ _, ⟨fun z hz => by simp [zeroX, Mx.p] at hz; omega, by simp [zeroX, Mx.p], by simp [zeroX, Mx.p]⟩⟩
theorem zero_bl {q : Nat} : ¬ Bl zeroX q := by rintro (⟨h, -⟩ | ⟨h, -⟩) <;> exact absurd h (by simp [zeroX])
theorem zero_own (base : Nat) (w : World) : Owns cb 5 base w (.slice zeroX.B zeroX.m zeroX.d) zeroX.m zeroX.x := Owns.nil _ _ _ _
/-- The i-th message. -/
def atP (N : List Mp) (i : Int) : Option Mp := if 0 ≤ i then N[i.toNat]? else none
theorem at_none {l : List Mx} {n : Nat} (hl : l.length = n) {i : Int} (h : atP (l.map Mx.p) i = none) : hasB n i = false := by
  unfold atP at h
  unfold hasB
  split at h
  · rename_i h0
    rw [List.getElem?_eq_none_iff, List.length_map] at h
    simp
    omega
  · rename_i h0
    simp
    omega
theorem at_some {l : List Mx} {i : Int} {p : Mp} (h : atP (l.map Mx.p) i = some p) : ∃ (j : Nat) (x : Mx), i = (j : Int) ∧ l[j]? = some x ∧ x.p = p := by
  unfold atP at h
  split at h
  · rename_i h0
    rw [List.getElem?_map] at h
    obtain ⟨x, hx, hp⟩ := Option.map_eq_some_iff.1 h
    exact ⟨i.toNat, x, by omega, hx, hp⟩
  · cases h
abbrev R3 := Nat × List Mp × Int
def dropR (cap : Nat) (N : List Mp) (i : Int) : R3 := match atP N i with | some _ => (cap, N.eraseIdx i.toNat, 0) | none => (0, [], 4)
def doubleR (cap : Nat) (N : List Mp) (i : Int) : R3 := match atP N i with | some x => (if N.length < cap then (cap, N ++ [x], 0) else (0, [], 2)) | none => (0, [], 4)
def laterR (cap : Nat) (N : List Mp) (i : Int) : R3 := match atP N i with | some x => (cap, N.eraseIdx i.toNat ++ [x], 0) | none => (0, [], 4)
def sendR (cap : Nat) (N L : List Mp) : R3 := (cap, sendP cap N L, ((sendP cap N L).length : Int) - (N.length : Int))
def cutR (cap : Nat) (N : List Mp) (i : Int) : R3 := (cap, N.filter (offB i), (N.length : Int) - ((N.filter (offB i)).length : Int))
def takeR (cap : Nat) (N : List Mp) (i : Int) : Nat × List Mp × Mp × Int := match atP N i with | some x => (cap, N.eraseIdx i.toNat, x, 0) | none => (0, [], zM, 4)
def Got (w : World) (R : R3) : Ending → World → Prop := GaveN1 w R.1 R.2.1 R.2.2
/-- What Take gave, whatever. -/
def GotT (w : World) (R : Nat × List Mp × Mp × Int) (e : Ending) (w' : World) : Prop :=
  ∃ Q n c l y, e = .returned (.tuple #[nv R.1 Q n c, mxv y, .int .i64 R.2.2.2]) ∧ OwnN w.heap.size w.heap.size w' (.slice Q n c) n l ∧ l.map Mx.p = R.2.1 ∧ y.p = R.2.2.1 ∧ MAt w' y ∧ New w.heap.size y ∧ Owns cb 5 w.heap.size w' (.slice y.B y.m y.d) y.m y.x ∧
    (∀ q, Bl y q → (Value.slice Q n c).ownBlock ≠ some q ∧ ∀ x ∈ l, ¬ Bl x q) ∧ Below w.heap.size w w'
section
variable {w : World} {cap : Nat} {Q : Option Addr} {n c : Nat} {l : List Mx}
theorem got_err {w' : World} {er : Int} (hb : Below w.heap.size w w') : Got w (0, [], er) (.returned (.tuple #[nv 0 none 0 0, .int .i64 er])) w' := ⟨none, 0, 0, [], rfl, OwnN.nil _ _ _, rfl, hb⟩
theorem got_drop (h : NetAt w Q n c l) (hn : n ≤ 5000) (i : Int) : Calls Try.prog 32 #[nv cap Q n c, .int .i64 i] w (Got w (dropR cap (l.map Mx.p) i)) := by
  unfold dropR
  rcases e : atP (l.map Mx.p) i with _ | p
  · refine (drop_bad (at_none h.row.len e) w).mono ?_
    rintro en w' ⟨rfl, hb⟩
    exact got_err hb
  · obtain ⟨j, x, rfl, hx, -⟩ := at_some e
    rw [Int.toNat_natCast]
    exact drop_ok h hn hx
theorem got_later (h : NetAt w Q n c l) (hn : n ≤ 5000) (i : Int) : Calls Try.prog 29 #[nv cap Q n c, .int .i64 i] w (Got w (laterR cap (l.map Mx.p) i)) := by
  unfold laterR
  rcases e : atP (l.map Mx.p) i with _ | p
  · refine (later_bad (at_none h.row.len e) w).mono ?_
    rintro en w' ⟨rfl, hb⟩
    exact got_err hb
  · obtain ⟨j, x, rfl, hx, rfl⟩ := at_some e
    rw [Int.toNat_natCast]
    exact later_ok h hn hx
theorem got_double (h : NetAt w Q n c l) (hn : n ≤ 5000) (i : Int) : Calls Try.prog 31 #[nv cap Q n c, .int .i64 i] w (Got w (doubleR cap (l.map Mx.p) i)) := by
  unfold doubleR
  have hl := h.row.len
  rcases e : atP (l.map Mx.p) i with _ | p
  · refine (double_bad (at_none h.row.len e) w).mono ?_
    rintro en w' ⟨rfl, hb⟩
    exact got_err hb
  · obtain ⟨j, x, rfl, hx, rfl⟩ := at_some e
    have hj := (List.getElem?_eq_some_iff.1 hx).1
    show Calls _ _ _ _ (Got w (if (l.map Mx.p).length < cap then (cap, l.map Mx.p ++ [x.p], 0) else (0, [], 2)))
    rw [List.length_map, hl]
    by_cases hr : n < cap
    · rw [if_pos hr]
      exact double_ok h hn hx hr
    · rw [if_neg hr]
      refine (double_long (by unfold hasB; simp; omega) hr w).mono ?_
      rintro en w' ⟨rfl, hb⟩
      exact got_err hb
theorem got_send (h : NetAt w Q n c l) (hn : n ≤ 5000) (hcap : cap ≤ 5000) {M : Option Addr} {m e : Nat} {ls : List Mx} (h2 : NetAt w M m e ls) :
    Calls Try.prog 27 #[nv cap Q n c, .slice M m e] w (Got w (sendR cap (l.map Mx.p) (ls.map Mx.p))) := by
  unfold sendR
  rw [List.length_map, h.row.len]
  exact send_any h hn hcap h2
theorem got_cut (h : NetAt w Q n c l) (hn : n ≤ 5000) (i : Int) : Calls Try.prog 33 #[nv cap Q n c, .int .i64 i] w (Got w (cutR cap (l.map Mx.p) i)) := by
  unfold cutR
  rw [List.length_map, h.row.len]
  exact cut_any h hn i
theorem got_take (h : NetAt w Q n c l) (hn : n ≤ 5000) (i : Int) : Calls Try.prog 30 #[nv cap Q n c, .int .i64 i] w (GotT w (takeR cap (l.map Mx.p) i)) := by
  unfold takeR
  rcases e : atP (l.map Mx.p) i with _ | p
  · refine (take_bad (at_none h.row.len e) w).mono ?_
    rintro en w' ⟨rfl, hb⟩
    exact ⟨none, 0, 0, [], zeroX, rfl, OwnN.nil _ _ _, rfl, rfl, zero_at w', fun q hq => absurd hq zero_bl, zero_own _ _, fun q hq => absurd hq zero_bl, hb⟩
  · obtain ⟨j, x, rfl, hx, rfl⟩ := at_some e
    rw [Int.toNat_natCast]
    exact take_ok h hn hx
end
/-! ### What is done by an operation's number -/
abbrev R5 := Nat × List Mp × Mp × Int × Int
def bodyR (cap : Nat) (N : List Mp) (d i : Int) (L : List Mp) : R5 :=
  if d = 0 then ((sendR cap N L).1, (sendR cap N L).2.1, zM, 0, (sendR cap N L).2.2) else
  if d = 1 then ((takeR cap N i).1, (takeR cap N i).2.1, (takeR cap N i).2.2.1, (takeR cap N i).2.2.2, 0) else
  if d = 2 then ((dropR cap N i).1, (dropR cap N i).2.1, zM, (dropR cap N i).2.2, 0) else
  if d = 3 then ((doubleR cap N i).1, (doubleR cap N i).2.1, zM, (doubleR cap N i).2.2, 0) else
  if d = 4 then ((laterR cap N i).1, (laterR cap N i).2.1, zM, (laterR cap N i).2.2, 0) else
  ((cutR cap N i).1, (cutR cap N i).2.1, zM, 0, (cutR cap N i).2.2)
def GotB (w : World) (R : R5) (e : Ending) (w' : World) : Prop :=
  ∃ Q n c l y, e = .returned (.tuple #[nv R.1 Q n c, mxv y, .int .i64 R.2.2.2.1, .int .i64 R.2.2.2.2]) ∧ OwnN w.heap.size w.heap.size w' (.slice Q n c) n l ∧ l.map Mx.p = R.2.1 ∧ y.p = R.2.2.1 ∧ MAt w' y ∧ New w.heap.size y ∧ Owns cb 5 w.heap.size w' (.slice y.B y.m y.d) y.m y.x ∧
    (∀ q, Bl y q → (Value.slice Q n c).ownBlock ≠ some q ∧ ∀ x ∈ l, ¬ Bl x q) ∧ Below w.heap.size w w'
theorem results_cc2 {P : Program} {fn : Func} {p u v z : Tmp} {ty ty2 : TypeId} (h : fn.results = #[.cell p ty, .cell u ty2, .tmp v, .tmp z]) (tmps : Array Value) (w : World) (g g2 : Nat) (t t2 : TypeId) (cs cs2 : Array Value) (fr fr2 : Nat × Nat) (d d2 : TypeDesc)
    (hp : tmps.getD p undef = .pointer (some ⟨g, 0, none⟩)) (hg : w.heap[g]? = some (.cells cs t fr))
    (hu : P.underlying ty = some d) (hd : (match d with | .struct _ | .array _ _ => true | _ => false) = true) (hi : (P.info? ty).map (·.size) = some cs.size)
    (hp2 : tmps.getD u undef = .pointer (some ⟨g2, 0, none⟩)) (hg2 : w.heap[g2]? = some (.cells cs2 t2 fr2))
    (hu2 : P.underlying ty2 = some d2) (hd2 : (match d2 with | .struct _ | .array _ _ => true | _ => false) = true) (hi2 : (P.info? ty2).map (·.size) = some cs2.size) :
    (results fn tmps).run P w = .ok (.tuple #[.agg cs, .agg cs2, tmps.getD v undef, tmps.getD z undef]) w := by
  have hp' : tmps[p]?.getD undef = .pointer (some ⟨g, 0, none⟩) := by simpa using hp
  have hp2' : tmps[u]?.getD undef = .pointer (some ⟨g2, 0, none⟩) := by simpa using hp2
  simp [results, h, hp', hp2', asAddr, Result.andThen, run_loadVar_row w g t ty cs fr d hg hu hd hi, run_loadVar_row w g2 t2 ty2 cs2 fr2 d2 hg2 hu2 hd2 hi2]
end Net
end Go.Proofs.Ytamahknnppjegaa
