import Derived.Test.YtihbgghlnppkiaaGreatDoorProg
import Derived.WalkKit
import Derived.LaidMore
import Derived.Lib.LaidTab
import Derived.ChangeSame
import GoSem.PinnedTables
set_option linter.unusedVariables false
set_option linter.unusedSimpArgs false
set_option maxRecDepth 100000
set_option maxHeartbeats 16000000
namespace Go.Proofs.YtihbgghlnppkiaaGreatDoor
open Go.RowKit Go.ChangeShapes
namespace LM
theorem pairs_of_trod {H : Type} {enc : TypeId × Value → H} {P : Program} {w : World} {base : Nat} {sp : Nat → Bool} {held : Bool} {fuel : Nat} {t e : TypeId} {n : Nat} {f0 f1 : Field} {k : IntKind} {cs : List Value} {rows : List (Nat × Nat)} {p : List MemPlace}
    (ht : P.underlying t = some (.array n e)) (he : P.underlying e = some (.struct #[f0,f1])) (h0 : P.underlying f0.type = some (.int k)) (h1 : P.underlying f1.type = some (.int k))
    (o0 : f0.offset = 0) (o1 : f1.offset = 1) (c0 : P.cellsOf f0.type = 1) (c1 : P.cellsOf f1.type = 1) (hce : P.cellsOf e = 2) (hct : P.cellsOf t = n * 2)
    (h : DataW.trod enc P w base sp held fuel t cs = some (.agg (rows.map fun x=>.agg [.lit (.int k x.1),.lit (.int k x.2)]),p)) :
    ∀ i x,rows[i]? = some x → cs[i * 2]? = some (.int k x.1)∧cs[i * 2 + 1]? = some (.int k x.2):=by
  cases fuel with
  | zero=>simp [DataW.trod] at h
  | succ fuel =>
    simp only [DataW.trod,ht,hce,hct] at h
    split at h
    · rename_i hl
      obtain ⟨xs,hm,hx⟩:=Option.map_eq_some_iff.1 h
      have hxs : xs.map (·.1) = rows.map fun x=>(DataW.agg [.lit (.int k x.1),.lit (.int k x.2)] : DataW H):=by
        have:=congrArg Prod.fst hx
        simpa using this
      have hxl : xs.length = n:=by simpa using Lib.mapM_length hm
      intro i x hi
      have hin : i < n:=by
        have h2:=congrArg List.length hxs
        have h3:=(List.getElem?_eq_some_iff.1 hi).1
        simp at h2
        omega
      obtain ⟨b,hb,hf⟩:=Lib.mapM_at hm i i (by simp [hin])
      have hb1 : b.1 = .agg [.lit (.int k x.1),.lit (.int k x.2)]:=by
        have h2 : (xs.map (·.1))[i]? = some b.1:=by simp [hb]
        rw [hxs] at h2
        simpa [hi] using h2.symm
      obtain ⟨y0,y1,m,rfl,hlen,hy0,hy1⟩:=trod_struct2 he hf
      simp only [DataW.agg.injEq,List.cons.injEq,and_true] at hb1
      rw [o0,c0] at hy0
      rw [o1,c1] at hy1
      obtain ⟨z0,hc0,hz0,_⟩:=DataW.trod_int h0 hy0
      obtain ⟨z1,hc1,hz1,_⟩:=DataW.trod_int h1 hy1
      have e0 : z0 = x.1:=by
        have:=hb1.1
        rw [hz0] at this
        simpa using this
      have e1 : z1 = x.2:=by
        have:=hb1.2
        rw [hz1] at this
        simpa using this
      subst e0
      subst e1
      refine ⟨?_,?_⟩
      · have:=congrArg (·[0]?) hc0
        simpa [List.getElem?_take,List.getElem?_drop] using this
      · have:=congrArg (·[0]?) hc1
        simpa [List.getElem?_take,List.getElem?_drop] using this
    · cases h
def PTab (w : World) : Prop:=∀ i x,Go.Pinned.pow10Rows[i]? = some x →
  w.cell? ⟨11,i * 2,none⟩ = some (.int .u64 (x.1 : Nat))∧w.cell? ⟨11,i * 2 + 1,none⟩ = some (.int .u64 (x.2 : Nat))
end LM
end Go.Proofs.YtihbgghlnppkiaaGreatDoor
