/-
  (*desk).do, WHATEVER THE COMMAND; and what steps come to, one behind the other.
-/
import Derived.Test.YtbmblgjilmgkeaaZnsDoA
import Derived.Test.YtbmblgjilmgkeaaZnsDoB
namespace Go.Proofs.Ytbmblgjilmgkeaa
open Go.RowKit Mem Zon
namespace Zns

theorem do_any {k : Dk} {xs : List Zv} {w : World} {r : Nat} {x : Cx} (h : Desk k xs w) (ha : Acts w r k.g) (hc : CmdAt w x) :
    Calls Try.prog 34 #[.pointer (some ⟨k.g, 0, none⟩), cxv x, .map (some r)] w (Acted k w (stepP k.cap k.op k.ac (xs.map Zv.z) x.c)) := by
  rcases hk : knownB x.c.d
  · exact do_arg h ha (.inl hk)
  · by_cases h0 : x.c.zone < 0
    · exact do_arg h ha (.inr (.inl h0))
    · by_cases h1 : (k.n : Int) ≤ x.c.zone
      · exact do_arg h ha (.inr (.inr h1))
      · obtain ⟨i, hzi⟩ : ∃ i : Nat, x.c.zone = (i : Int) := ⟨x.c.zone.toNat, by omega⟩
        obtain ⟨v, hv⟩ := h.get (i := i) (by omega)
        by_cases h7 : x.c.d = 7
        · exact do_fences h ha hc h7 hv hzi
        · by_cases hep : x.c.epoch = v.z.fc
          · rcases known_of hk with e | e | e | e | e | e | e | e
            · exact do_add h ha hc e hv hzi hep
            · exact do_tear h ha hc e hv hzi hep
            · exact do_read h ha hc e hv hzi hep
            · exact do_reset h ha hc e hv hzi hep
            · exact do_finish h ha hc e hv hzi hep
            · exact do_open h ha hc e hv hzi hep
            · exact do_close h ha hc e hv hzi hep
            · exact absurd e h7
          · exact do_fence h ha hk hv hzi h7 hep

def stepsP (cap op ac : Int) (zs : List Zn) (l : List Cm) : List Zn × List Dn :=
  l.foldl (fun s c => ((stepP cap op ac s.1 c).1, s.2 ++ [(stepP cap op ac s.1 c).2])) (zs, [])
theorem stepsP_snoc (cap op ac : Int) (zs : List Zn) (l : List Cm) (c : Cm) :
    stepsP cap op ac zs (l ++ [c]) = ((stepP cap op ac (stepsP cap op ac zs l).1 c).1, (stepsP cap op ac zs l).2 ++ [(stepP cap op ac (stepsP cap op ac zs l).1 c).2]) := by
  unfold stepsP
  rw [List.foldl_append]
  rfl
/-- What All comes to. -/
def runP (d : Dv) (l : List Cm) : Dv × List Dn :=
  bif okD d then (⟨d.cap, d.op, d.ac, (stepsP d.cap d.op d.ac d.zs l).1⟩, (stepsP d.cap d.op d.ac d.zs l).2) else (d, l.map fun _ => fail_ 1)
end Zns
end Go.Proofs.Ytbmblgjilmgkeaa
