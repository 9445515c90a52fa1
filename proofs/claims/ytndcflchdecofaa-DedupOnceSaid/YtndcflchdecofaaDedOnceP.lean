/-
  THE LAW DedupOnce: in plain: what was done, what is gone, and what is told; maps by pairs.
-/
import Derived.Test.YtndcflchdecofaaDedLaw
import Derived.Test.YtndcflchdecofaaDedArgs
import Derived.Test.YtndcflchdecofaaDedRef
import Derived.Test.YtndcflchdecofaaGMap
import Derived.Laws.StructEq
import Derived.WideKeyPair
namespace Go.Proofs.Ytndcflchdecofaa
open Go.RowKit Mem Box GM
namespace Ded
open Net (Mp Mx MAt mxv MBox)

abbrev Key := Int × Int
def I64 (z : Int) : Prop := (Lit.int .i64 z).wf = true
def mkP (k : Key) : Value := .agg #[.int .i64 k.1, .int .i64 k.2]
def okP (k : Key) : Prop := I64 k.1 ∧ I64 k.2
def btI (z : Int) : Value := .int .i64 z
def btB (b : Bool) : Value := .bool b
theorem arrP : WideMaps.ArrKey Try.prog 29 3 2 := ⟨Try.underlying29, by kernel_rfl, by kernel_rfl, by kernel_rfl⟩
theorem typesP : ∃ m, Try.prog.types.size = m + 1 := ⟨_, show Try.prog.types.size = Try.prog.types.size - 1 + 1 by have : 0 < Try.prog.types.size := of_decide_eq_true (by kernel_rfl); omega⟩
theorem kyP : Ky Try.prog 29 mkP okP := ky_keyed (Maps.Keyed.of_law arrP.law) (fun {a b} h => by
  unfold mkP at h
  injection h with h
  have h := congrArg Array.toList h
  simp at h
  exact Prod.ext h.1 h.2) (fun x hx => ⟨_, WideMaps.keyOf_pair arrP Try.underlying3 typesP hx.1 hx.2⟩)
abbrev MD (w : World) (r : Nat) (ds : List (Key × Int)) : Prop := FMap mkP okP btI w r ds
abbrev MG (w : World) (r : Nat) (gs : List (Key × Bool)) : Prop := FMap mkP okP btB w r gs
def goneB (gs : List (Key × Bool)) (k : Key) : Bool := (getB gs k).getD false
theorem done_get {w : World} {r : Nat} {ds : List (Key × Int)} (h : MD w r ds) {f i : Int} (hk : okP (f, i)) :
    (Instr.lookup 25 (.map (some r)) (.agg #[.int .i64 f, .int .i64 i]) true).run Try.prog w = .ok (.tuple #[((getB ds (f, i)).map btI).getD (.int .i64 0), .bool (getB ds (f, i)).isSome]) w :=
  GM.run_get_ok kyP Try.underlying25 h (show (zeroValue 3).run Try.prog w = .ok (.int .i64 0) w by kernel_rfl) hk
theorem gone_get {w : World} {r : Nat} {gs : List (Key × Bool)} (h : MG w r gs) {f i : Int} (hk : okP (f, i)) :
    (Instr.lookup 26 (.map (some r)) (.agg #[.int .i64 f, .int .i64 i]) false).run Try.prog w = .ok (.bool (goneB gs (f, i))) w := by
  have h1 := GM.run_get (mk := mkP) (ok := okP) (bt := btB) kyP Try.underlying26 h (show (zeroValue 4).run Try.prog w = .ok (.bool false) w by kernel_rfl) hk
  rw [show Value.bool (goneB gs (f, i)) = ((getB gs (f, i)).map btB).getD (.bool false) by unfold goneB; cases getB gs (f, i) <;> rfl]
  exact h1
theorem done_put {w : World} {r : Nat} {ds : List (Key × Int)} (h : MD w r ds) {f i : Int} (hk : okP (f, i)) (z : Int) :
    ∃ w', (Instr.mapUpdate 25 (.map (some r)) (.agg #[.int .i64 f, .int .i64 i]) (.int .i64 z)).run Try.prog w = .ok () w' ∧ MD w' r (setB ds (f, i) z) ∧ Mov [r] w w' ∧ w'.heap.size = w.heap.size :=
  GM.run_put kyP Try.underlying25 h hk z
theorem gone_put {w : World} {r : Nat} {gs : List (Key × Bool)} (h : MG w r gs) {f i : Int} (hk : okP (f, i)) :
    ∃ w', (Instr.mapUpdate 26 (.map (some r)) (.agg #[.int .i64 f, .int .i64 i]) (.bool true)).run Try.prog w = .ok () w' ∧ MG w' r (setB gs (f, i) true) ∧ Mov [r] w w' ∧ w'.heap.size = w.heap.size :=
  GM.run_put kyP Try.underlying26 h hk true

/-! ### A row does not lie in a map's block -/
theorem row_map {α : Type} {f : α → Value} {A : Option Addr} {n c r : Nat} {l : List α} {w w' : World} {es : Array MapEntry} {cl : Nat} (h : Row f w A n c l) (hr : w.heap[r]? = some (.map es cl)) (hm : Mov [r] w w') : Row f w' A n c l := by
  refine Net.row_keep h hm.size fun k o h0 e => hm.block k (Net.row_lt h h0 e) ?_
  simp only [List.mem_singleton]
  rintro rfl
  obtain ⟨b, o', e', hb, hc⟩ := h.at_ h0
  rw [e] at e'
  injection e' with e'
  injection e' with e1 e2
  subst e1 e2
  obtain ⟨x, hx⟩ := h.get h0
  have := hc 0 x hx
  simp [World.cell?, hr] at this
theorem rowS_map {α : Type} {cells : α → List Value} {k : Nat} {A : Option Addr} {n c r : Nat} {l : List α} {w w' : World} {es : Array MapEntry} {cl : Nat} (F : OwnS.Fit cells k) (h : RowS cells k w A n c l) (hr : w.heap[r]? = some (.map es cl)) (hm : Mov [r] w w') : RowS cells k w' A n c l := by
  refine Box.RowS.keep h hm.size fun q o e h0 => ?_
  obtain ⟨b, o', e', hb, hc⟩ := h.at_ h0
  rw [e] at e'
  injection e' with e'
  injection e' with e1 e2
  subst e1 e2
  refine hm.block _ hb ?_
  simp only [List.mem_singleton]
  rintro rfl
  obtain ⟨x, hx⟩ := h.get h0
  obtain ⟨u, hu⟩ : ∃ u, (cells x)[0]? = some u := ⟨_, List.getElem?_eq_getElem (by rw [F.len]; exact F.pos)⟩
  have := hc 0 x hx 0 u hu
  simp [World.cell?, hr] at this
theorem list_map {A : Option Addr} {n c r : Nat} {l : List Sx} {w w' : World} {es : Array MapEntry} {cl : Nat} (h : ListAt w A n c l) (hr : w.heap[r]? = some (.map es cl)) (hm : Mov [r] w w') : ListAt w' A n c l :=
  ⟨rowS_map fitS h.row hr hm, fun x hx => ⟨rowS_map fitD (h.at_ x hx).row hr hm, fun d hd => ⟨row_map ((h.at_ x hx).at_ d hd).ints hr hm, row_map ((h.at_ x hx).at_ d hd).text hr hm, ((h.at_ x hx).at_ d hd).fits⟩⟩⟩
theorem good_map {V : Type} {bt : V → Value} {A : Option Addr} {n c r K : Nat} {l : List Sx} {w w' : World} {ks : List (Key × V)} (h : Good w A n c l K) (hr : FMap mkP okP bt w r ks) (hm : Mov [r] w w') : Good w' A n c l K := by
  obtain ⟨es, cl, h1, -⟩ := hr.blk
  exact ⟨list_map h.at_ h1 hm, h.ok, h.bi, h.few⟩
theorem ListAt.zero (w : World) (B : Option Addr) (d : Nat) : ListAt w B 0 d [] := ⟨⟨rfl, by omega, by omega, fun h => absurd h (by omega)⟩, by simp⟩

/-! ### Plain -/
/-- No one's Below is out of reach. -/
def BB (pl : List Sp) : Prop := ∀ s ∈ pl, s.b ≤ 1152921504606846977
theorem BB.put {pl : List Sp} {f : Int} {a : Dp} (hb : BB pl) (hi : BI pl) (h : NewAt pl f a) (ha : a.id ≤ 1152921504606846976) : BB (putP pl f a) := by
  obtain ⟨-, h2, -⟩ := (okL_iff pl).1 h.ok
  obtain ⟨hk, hf⟩ := ofP_ok h.ok f
  have hof : (ofP pl f).b ≤ 1152921504606846977 ∧ ∀ d ∈ (ofP pl f).l, d.id ≤ 1152921504606846976 := by
    rcases ofP_cases h2 f with ⟨z, hz, -, e2⟩ | ⟨-, e2⟩
    · rw [e2]; exact ⟨hb z hz, hi z hz⟩
    · rw [e2]; exact ⟨by show (0 : Int) ≤ _; omega, fun d hd => by cases hd⟩
  intro s hs
  rcases (mem_put h2).1 hs with rfl | ⟨hs, -⟩
  · rcases with_eq hk h.of.2 with ⟨e, -⟩ | ⟨d, L, hL, e, -⟩
    · rw [e]; exact hof.1
    · rw [e]
      have : d ∈ bigP (ofP pl f) a := by rw [hL]; simp
      rcases (mem_big h.of.2).1 this with rfl | hd
      · show d.id + 1 ≤ _; omega
      · have := hof.2 d hd
        show d.id + 1 ≤ _; omega
  · exact hb s hs
/-- What was done, and what is gone, agree with what is told. -/
structure Inv (pl : List Sp) (ds : List (Key × Int)) (gs : List (Key × Bool)) : Prop where
  bb : BB pl
  gone : ∀ f i, 0 ≤ f → 0 ≤ i → goneB gs (f, i) = true → (askP pl f i).2 = 2
  old : ∀ f i, 0 ≤ f → 0 ≤ i → (askP pl f i).2 = 1 → getB ds (f, i) = some (askP pl f i).1.k
  new : ∀ f i, 0 ≤ f → 0 ≤ i → (askP pl f i).2 = 0 → getB ds (f, i) = none
theorem ask_nil {f i : Int} (hi : 0 ≤ i) : askP [] f i = (m0, 0) := by
  unfold askP
  rw [ok_nil, cond_true]
  show tellS ⟨f, 0, []⟩ i = _
  exact tell_new (s := ⟨f, 0, []⟩) (by simp) hi (by simp)
theorem Inv.nil : Inv [] [] [] := ⟨fun _ h => (by cases h), fun f i _ _ h => (by cases h), fun f i _ hi h => (by rw [ask_nil hi] at h; cases h), fun _ _ _ _ _ => rfl⟩
theorem Inv.left {pl : List Sp} {ds : List (Key × Int)} {gs : List (Key × Bool)} (h : Inv pl ds gs) {f i : Int} (hg : (askP pl f i).2 = 2) : Inv pl ds (setB gs (f, i) true) := by
  refine ⟨h.bb, fun g j h0 h1 h2 => ?_, h.old, h.new⟩
  unfold goneB at h2
  rw [get_set] at h2
  split at h2
  · rename_i e
    injection e with e1 e2
    rw [e1, e2]; exact hg
  · exact h.gone g j h0 h1 h2
theorem Inv.done {pl : List Sp} {ds : List (Key × Int)} {gs : List (Key × Bool)} (h : Inv pl ds gs) (hb : BI pl) {f i : Int} {m : Mp} (hn : NewAt pl f ⟨i, m⟩) (h0 : 0 ≤ i) (hi : i ≤ 1152921504606846976) : Inv (putP pl f ⟨i, m⟩) (setB ds (f, i) m.k) gs := by
  have hnew : (askP pl f i).2 = 0 := hn.new
  refine ⟨h.bb.put hb hn hi, fun g j hg hj hgo => ?_, fun g j hg hj ha => ?_, fun g j hg hj ha => ?_⟩
  · obtain ⟨h1, h2⟩ := ask_put hn g j
    have hp := h.gone g j hg hj hgo
    by_cases e : g = f
    · rcases h2 e with h3 | ⟨h3, -⟩ | ⟨-, -, h3⟩
      · rw [h3]
      · have h3 : j = i := h3
        rw [e, h3, hnew] at hp; cases hp
      · exact absurd hp h3
    · rw [h1 e]; exact hp
  · obtain ⟨h1, h2⟩ := ask_put hn g j
    rw [get_set]
    by_cases e : g = f
    · rcases h2 e with h3 | ⟨h3, h4⟩ | ⟨h3, h4, -⟩
      · rw [h3] at ha; cases ha
      · have h3 : j = i := h3
        rw [if_pos (by rw [e, h3]), h4]
      · have h3 : j ≠ i := h3
        rw [if_neg (fun e2 => h3 (by injection e2)), h4]
        rw [h4] at ha
        exact h.old g j hg hj ha
    · rw [if_neg (fun e2 => e (by injection e2)), h1 e]
      rw [h1 e] at ha
      exact h.old g j hg hj ha
  · obtain ⟨h1, h2⟩ := ask_put hn g j
    rw [get_set]
    by_cases e : g = f
    · rcases h2 e with h3 | ⟨h3, h4⟩ | ⟨h3, h4, -⟩
      · rw [h3] at ha; cases ha
      · rw [h4] at ha; cases ha
      · have h3 : j ≠ i := h3
        rw [if_neg (fun e2 => h3 (by injection e2))]
        rw [h4] at ha
        exact h.new g j hg hj ha
    · rw [if_neg (fun e2 => e (by injection e2))]
      rw [h1 e] at ha
      exact h.new g j hg hj ha
end Ded
end Go.Proofs.Ytndcflchdecofaa
