import Derived.Test.YtihbgghlnppkiaaGreatDoorProg
import Derived.Test.YtihbgghlnppkiaaGreatDoorR02
import Derived.Handy
import Derived.Deep.LoopGhost
import Derived.Deep.QuietTactic
import Derived.BigQuiet
import Derived.Outline
set_option linter.unusedVariables false
set_option linter.unusedSimpArgs false
set_option maxRecDepth 100000
set_option maxHeartbeats 16000000
namespace Go.Proofs.YtihbgghlnppkiaaGreatDoor
open Go Go.RowKit
namespace LM
theorem below_nd {w0 wr : World} {g : Nat} (h : w0.grownBy wr (some g)) (p : Nat) (v : Value) : w0.grownBy (wr.setCell ⟨g,p,none⟩ v) (some g):=only_setCell h (p:=⟨g,p,none⟩) (.inl rfl) v
theorem trim_eq0 {s : Dec} (ht : trimN s.f 0 = trimN s.f s.nd) : ({ s with nd:=0,dp:=0 } : Dec) = trimD s:=by
  unfold trimD
  rw [← ht]
  rfl
theorem trim_eq {s : Dec} {m : Nat} (ht : trimN s.f (m + 1) = trimN s.f s.nd) (hc : s.f m ≠ 48) : ({ s with nd:=m + 1 } : Dec) = trimD s:=by
  have e : trimN s.f (m + 1) = m + 1:=by unfold trimN; rw [if_neg hc]
  unfold trimD
  rw [← ht,e,if_neg (by omega)]
theorem trim_any (g : Nat) (s : Dec) (w : World) (hD : DecR w g s) (hn : s.nd ≤ 800) :
    Calls Tryz.prog 211 #[.pointer (some ⟨g,0,none⟩)] w fun e w'=>e = .returned (.tuple #[])∧DW w g (trimD s) w':=by
  have HD:=Lib.hid hD
  clear hD
  go_enter Tryz.func211,Tryz.ntmps211
  go_wp2_with (fail)
  go_loopg [] s.nd (fun kk wr=>∃ j : Nat,j = kk∧j ≤ s.nd∧Hid (trimN s.f j = trimN s.f s.nd)∧Hid (DecR wr g { s with nd:=j })∧Hid (w.grownBy wr (some g)))
  case atStart=>exact ⟨_,rfl,Nat.le_refl _,Lib.hid rfl,HD,Lib.hid (only_refl _ _)⟩
  case round =>
    obtain ⟨j,rfl,hk,ht,hd,hg⟩:=hrel
    have c0:=hd.out.ndc
    have c1:=hd.out.dpc
    have z0:=hd.out.frozen 800
    have z1:=hd.out.frozen 801
    dsimp only at c0 c1
    rcases Nat.eq_zero_or_pos j with h0 | hpos
    · subst h0
      have d0 : decide ((0 : Int) < ((0 : Nat) : Int)) = false:=by decide
      have d1 : decide ((0 : Nat) < 0) = false:=by decide
      go_wp2_with (fail)
      go_quiet (fail)
      go_wp2_with (fail)
      go_end0
      refine ⟨rfl,?_⟩
      exact ⟨((hd.out.drewN _).setDp 0).eq (trim_eq0 ht.out),below_nd (only_drewN hg.out _) _ _⟩
    · obtain ⟨m,rfl⟩ : ∃ m,j = m + 1:=⟨j - 1,by omega⟩
      have c2:=hd.out.byte m (by omega)
      obtain ⟨c,hc⟩ : ∃ c,s.f m = c:=⟨_,rfl⟩
      dsimp only at c2
      rw [hc] at c2
      have HC:=Lib.hid hc
      have e1 : IntKind.i64.wrap (((m + 1 : Nat) : Int) - 1) = (m : Int):=by rw [IntKind.wrap_i64]; omega
      have e2 : (((m : Nat) : Int)).toNat = m:=by omega
      clear hc
      by_cases h48 : c = 48
      · subst h48
        go_wp2_with (fail)
        go_quiet (fail)
        go_wp2_with (fail)
        go_roundg m
        case measure=>omega
        case rel=>exact ⟨m,rfl,by omega,Lib.hid (by rw [← ht.out,trimN,if_pos HC.out]),Lib.hid ((hd.out.drewN _).setNd m),Lib.hid (below_nd (only_drewN hg.out _) _ _)⟩
      · have d1 : ((c : Int) == 48) = false:=by simpa using (by omega : ¬ (c : Int) = 48)
        go_wp2_with (fail)
        go_quiet (fail)
        go_wp2_with (fail)
        go_end0
        exact ⟨rfl,(hd.out.drewN _).eq (trim_eq ht.out (by rw [HC.out]; exact h48)),only_drewN hg.out _⟩
end LM
namespace LM
def byF (s : ByteArray) (i : Nat) : Nat:=(s.data.toList.getD i 0).toNat
theorem byF_at (s : ByteArray) (i : Nat) (h : i < s.size) : s[i].toNat = byF s i:=by
  unfold byF
  rw [List.getD_eq_getElem?_getD,Array.getElem?_toList,Array.getElem?_eq_getElem (by exact h)]
  rfl
theorem drewN_add (w : World) (n m : Nat) : (w.drewN n).drewN m = w.drewN (n + m):=by
  unfold World.drewN
  simp only [Nat.add_assoc]
theorem prefix_any (g nd cap : Nat) (f : Nat → Nat) (cs : ByteArray) (w : World) (hn : nd ≤ 800) (hcap : nd ≤ cap) (hcs : cs.size ≤ 800) (hc : ∀ i,i < nd → w.cell? ⟨g,i,none⟩ = some (.int .u8 ((f i : Nat) : Int))) :
    Calls Tryz.prog 230 #[.slice (some ⟨g,0,none⟩) nd cap,.string cs] w fun e w'=>e = .returned (.bool (pl f nd (byF cs) cs.size 0))∧∃ k,w' = w.drewN k:=by
  have HC:=Lib.hid hc
  clear hc
  obtain ⟨R,hR⟩ : ∃ R,pl f nd (byF cs) cs.size 0 = R:=⟨_,rfl⟩
  rw [hR]
  have HR:=Lib.hid hR
  clear hR
  go_enter Tryz.func230,Tryz.ntmps230
  go_wp2_with (fail)
  go_loopg [5] cs.size (fun kk i wr=>∃ j : Nat,cs.size - j = kk∧j ≤ cs.size∧j ≤ nd∧i = .int .i64 (j : Int)∧Hid (pl f nd (byF cs) (cs.size - j) j = R)∧∃ k,wr = w.drewN k)
  case atStart=>exact ⟨0,rfl,Nat.zero_le _,Nat.zero_le _,rfl,HR,0,rfl⟩
  case round =>
    obtain ⟨j,rfl,h1,h2,rfl,hp,k,rfl⟩:=hrel
    by_cases hj : j < cs.size
    · obtain ⟨q,hq⟩ : ∃ q,cs.size - j = q + 1:=⟨cs.size - j - 1,by omega⟩
      have hp2:=hp.out
      rw [hq] at hp2
      unfold pl at hp2
      by_cases hnd : j < nd
      · have c0 : w.cell? ⟨g,j,none⟩ = some (.int .u8 ((f j : Nat) : Int)):=HC.out j hnd
        have hb:=byF_at cs j hj
        obtain ⟨y,hy⟩ : ∃ y,byF cs j = y:=⟨_,rfl⟩
        obtain ⟨x,hx⟩ : ∃ x,f j = x:=⟨_,rfl⟩
        rw [hx] at c0 hp2
        rw [hy] at hb hp2
        rw [if_neg (by omega)] at hp2
        clear hp
        by_cases exy : x = y
        · subst exy
          rw [if_pos rfl] at hp2
          have HP:=Lib.hid hp2
          have HQ:=Lib.hid hq
          clear hp2 hx hy hq
          go_wp2_with (fail)
          go_quiet (fail)
          go_wp2_with (fail)
          go_roundg (cs.size - (j + 1))
          case measure=>omega
          case rel=>exact ⟨j + 1,rfl,by omega,by omega,by go_num,Lib.hid (by rw [show cs.size - (j + 1) = q from by have:=HQ.out; omega]; exact HP.out),_,rfl⟩
        · rw [if_neg exy] at hp2
          have HP:=Lib.hid hp2
          have d1 : ((x : Int) != (y : Int)) = true:=by simpa using (by omega : ¬ (x : Int) = y)
          clear hp2 hx hy hq
          go_wp2_with (fail)
          go_quiet (fail)
          go_wp2_with (fail)
          go_quiet (fail)
          go_wp2_with (fail)
          go_ret
          exact ⟨by rw [← HP.out]; simp,_,by rw [drewN_add,drewN_add]⟩
      · rw [if_pos (by omega)] at hp2
        have HP:=Lib.hid hp2
        clear hp2 hp hq
        go_wp2_with (fail)
        go_ret
        exact ⟨by rw [← HP.out]; rfl,_,rfl⟩
    · have e0 : cs.size - j = 0:=by omega
      have hp2:=hp.out
      rw [e0] at hp2
      have HP:=Lib.hid hp2
      clear hp2 hp e0
      go_wp2_with (fail)
      go_ret
      exact ⟨by rw [← HP.out]; rfl,_,rfl⟩
end LM
end Go.Proofs.YtihbgghlnppkiaaGreatDoor
