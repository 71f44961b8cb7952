import Derived.Test.YtihbgghlnppkiaaGreatDoorR51
import GoSem.PinnedTables
import Derived.ScopeJumps
set_option linter.unusedVariables false
set_option linter.unusedSimpArgs false
set_option maxRecDepth 100000
set_option maxHeartbeats 16000000
namespace Go.Proofs.YtihbgghlnppkiaaGreatDoor
open Go Go.RowKit
namespace LM
def CT (w : World) : Prop:=∃ b n c,w.cell? ⟨12,0,none⟩ = some (.slice (some ⟨b,n,none⟩) 61 c)∧b < w.heap.size∧∀ (k : Nat) x,Go.Pinned.cheatRows[k]? = some x → w.cell? ⟨b,n + k * 2,none⟩ = some (.int .i64 ((x.1 : Nat) : Int))∧w.cell? ⟨b,n + k * 2 + 1,none⟩ = some (.string ⟨x.2.toArray⟩)
def ctGood (k : Nat) : Bool:=match Go.Pinned.cheatRows[k]? with
  | some x=>x.1 == lcD k && x.2.length == lcL k && (List.range (lcL k)).all fun i=>(x.2.getD i 0).toNat == lcC k i
  | none=>false
theorem ct_all : ((List.range 61).all ctGood) = true:=by kernel_rfl
theorem ct_row {k : Nat} (h : k ≤ 60) : ∃ x,Go.Pinned.cheatRows[k]? = some x∧x.1 = lcD k∧(⟨x.2.toArray⟩ : ByteArray).size = lcL k∧∀ i,i < lcL k → byF ⟨x.2.toArray⟩ i = lcC k i:=by
  have h1:=List.all_eq_true.1 ct_all k (List.mem_range.2 (by omega))
  unfold ctGood at h1
  cases hx : Go.Pinned.cheatRows[k]? with
  | none=>rw [hx] at h1; cases h1
  | some x =>
    rw [hx] at h1
    simp only [Bool.and_eq_true,beq_iff_eq,List.all_eq_true,List.mem_range] at h1
    obtain ⟨⟨a1,a2⟩,a3⟩:=h1
    exact ⟨x,rfl,a1,a2,fun i hi=>by
      have:=a3 i hi
      unfold byF
      exact this⟩
theorem pl_congr {f c d : Nat → Nat} {nd : Nat} : ∀ q i,(∀ j,i ≤ j → j < i + q → c j = d j) → pl f nd c q i = pl f nd d q i:=by
  intro q
  induction q with
  | zero=>intro i h; rfl
  | succ q ih =>
    intro i h
    unfold pl
    rw [h i (Nat.le_refl _) (by omega),ih (i + 1) fun j h1 h2=>h j (by omega) (by omega)]
theorem CT.at {w : World} (h : CT w) {k : Nat} (hk : k ≤ 60) : ∃ b n c S,w.cell? ⟨12,0,none⟩ = some (.slice (some ⟨b,n,none⟩) 61 c)∧w.cell? ⟨b,n + k * 2,none⟩ = some (.int .i64 ((lcD k : Nat) : Int))∧w.cell? ⟨b,n + k * 2 + 1,none⟩ = some (.string S)∧S.size = lcL k∧∀ (f : Nat → Nat) nd,pl f nd (byF S) S.size 0 = pl f nd (lcC k) (lcL k) 0:=by
  obtain ⟨b,n,c,h1,h2,h3⟩:=h
  obtain ⟨x,e1,e2,e3,e4⟩:=ct_row hk
  obtain ⟨y1,y2⟩:=h3 k x e1
  rw [e2] at y1
  exact ⟨b,n,c,_,h1,y1,y2,e3,fun f nd=>by rw [e3]; exact pl_congr _ _ fun j _ hj=>e4 j (by omega)⟩
theorem lsD_eq {s : Dec} {k K dl : Nat} {R1 : (Nat → Nat) × Nat × Bool} {R2 : (Nat → Nat) × Nat} (hK : 2 ^ k = K) (hd : lsDl s k = dl) (h1 : ls1 K dl s.nd s.f 0 s.tr = R1) (h2 : ls2 dl R1.1 R1.2.1 = R2) :
    trimD { f:=R2.1,nd:=if 800 ≤ s.nd + dl then 800 else s.nd + dl,dp:=s.dp + dl,neg:=s.neg,tr:=R1.2.2 } = lsD s k:=by
  subst hK hd h1 h2
  rfl
set_option maxRecDepth 1000000 in
theorem left_any (g k : Nat) (s : Dec) (w : World) (hD : DecR w g s) (hs : DOk s) (h1 : 1 ≤ k) (hk : k ≤ 60) (hdp : -1000000 ≤ s.dp∧s.dp ≤ 1000000) (hct : CT w) :
    Calls Tryz.prog 212 #[.pointer (some ⟨g,0,none⟩),.int .u64 (k : Int)] w fun e w'=>e = .returned (.tuple #[])∧DW w g (lsD s k) w':=by
  have hKb:=two_le60 hk
  have hK0 : 0 < 2 ^ k:=Nat.pow_pos (by decide)
  have L:=lc_ok h1 hk
  obtain ⟨o1,o2,o3,o4,o5,o6,o7⟩:=ls_ok hs h1 hk
  obtain ⟨K,hK⟩ : ∃ K,2 ^ k = K:=⟨_,rfl⟩
  have hpi : (2 : Int) ^ k = (K : Int):=by rw [← hK]; push_cast; rfl
  have hmin : min k 64 = k:=Nat.min_eq_left (by omega)
  rw [hK] at hKb hK0
  obtain ⟨tb,tn,tc,S,t1,t2,t3,t4,t5⟩:=hct.at hk
  have hSl : S.size ≤ 800:=by have:=L.len; omega
  obtain ⟨B,hB⟩ : ∃ B,pl s.f s.nd (lcC k) (lcL k) 0 = B:=⟨_,rfl⟩
  have PX:=fun W (hW : ∀ i,i < s.nd → W.cell? ⟨g,i,none⟩ = some (.int .u8 ((s.f i : Nat) : Int)))=>prefix_any g s.nd 800 s.f S W hs.most hs.most hSl hW
  rw [t5,hB] at PX
  have hdl : lsDl s k = if B then lcD k - 1 else lcD k:=by unfold lsDl; rw [hB]
  have hlo:=L.lo
  obtain ⟨D0,hD0⟩ : ∃ D0,lcD k = D0:=⟨_,rfl⟩
  rw [hD0] at t2 hdl hlo
  obtain ⟨dl,hdle⟩ : ∃ dl,lsDl s k = dl:=⟨_,rfl⟩
  rw [hdle] at hdl o2 o4 o6 o7
  have HPX:=Lib.hid PX
  have HK:=Lib.hid hK
  have HS:=Lib.hid hs
  have HD:=Lib.hid hD
  have HDL:=Lib.hid hdl
  have HDLE:=Lib.hid hdle
  have O5:=Lib.hid o5
  have c0:=hD.ndc
  have hnd:=hs.most
  have hnd1:=hs.pos
  have hal : Tryz.prog.arrayLen 239 = 800:=by simp [Program.arrayLen,Tryz.underlying239]
  have hsl : ∀ W,(Instr.sliceAt 239 (.pointer (some ⟨g,0,none⟩)) (some (.int .i64 0)) (some (.int .i64 (s.nd : Int))) none).run Tryz.prog W = .ok (.slice (some ⟨g,0,none⟩) s.nd 800) W:=fun W=>by
    rw [run_sliceAt_array_lh W 239 ⟨g,0,none⟩ (by simp [Program.arrayLen,Program.elem,Tryz.underlying239]) .i64 .i64 0 (s.nd : Int) (by omega) (by omega) (by rw [hal]; omega)]
    go_simp
  clear hD hK hs hct PX t4 hal t5 hB hdl hD0 hdle L o1 o2 o3 o4 o5 o7 hSl
  go_enter Tryz.func212,Tryz.ntmps212
  go_wp2_with (fail)
  go_quiet ((go_at_call 230; exact Calls.quiet_of (HPX.out _ (fun i hi=>HD.out.byte i (by omega)))))
  go_upto_if 30 with (fail)
  go_cut [4] (fun d wx=>d = .int .i64 (dl : Int)∧∃ n,wx = w.drewN n)
  case first =>
    cases B
    · have e : dl = D0:=HDL.out
      subst e
      go_wp2_with (fail)
      go_meet
      case rel=>exact ⟨rfl,_,rfl⟩
    · have e : dl = D0 - 1:=HDL.out
      have e2 : D0 = dl + 1:=by omega
      subst e2
      clear e HDL
      go_wp2_with (fail)
      go_meet
      case rel=>exact ⟨by go_num,_,rfl⟩
  case rest =>
    obtain ⟨rfl,n0,rfl⟩:=hcut
    obtain ⟨R1,hR1⟩ : ∃ R1,ls1 K dl s.nd s.f 0 s.tr = R1:=⟨_,rfl⟩
    have HR1:=Lib.hid hR1
    have HG0:=Lib.hid (only_drewN (only_refl w (some g)) n0)
    have HD0:=Lib.hid (HD.out.drewN n0)
    have HS1:=Lib.hid (ls1_spec K dl hK0 s.nd s.f 0 s.tr hK0 HS.out.dig)
    rw [hR1] at HS1
    rw [HDLE.out,HK.out,hR1] at O5
    have c3:=HD.out.dpc
    clear hR1 t1 t2 t3 hsl HPX HD hlo
    go_wp2_with (fail)
    go_loopg [5,6,7,8,9] s.nd (fun qq r v n c d wx=>∃ (q : Nat) (f : Nat → Nat) (n' : Nat) (tr : Bool) (z : Int) (y : Nat),q = qq∧r = .int .i64 z∧z + 1 = (q : Int)∧v = .int .i64 (y : Int)∧y = q + dl∧q ≤ s.nd∧n = .int .u64 (n' : Int)∧n' < K∧Dig f 0 q∧Hid (ls1 K dl q f n' tr = R1)∧Hid (DecR wx g { s with f:=f,tr:=tr })∧Hid (w.grownBy wx (some g)))
    case atStart=>exact ⟨s.nd,s.f,0,s.tr,(s.nd : Int) - 1,s.nd + dl,rfl,rfl,by omega,by go_num,rfl,Nat.le_refl _,rfl,hK0,HS.out.dig,HR1,HD0,HG0⟩
    case round =>
      obtain ⟨q,f,n',tr,z,y,rfl,rfl,hz,rfl,hy,hqn,rfl,hn,hdg,hr1,hd,hg⟩:=hrel
      clear HD0 HG0
      cases q with
      | succ p =>
        obtain rfl : z = (p : Int):=by omega
        obtain ⟨x,rfl⟩ : ∃ x,y = x + 1:=⟨p + dl,by omega⟩
        have hx : x = p + dl:=by omega
        have hb:=hdg p (Nat.zero_le _) (by omega)
        have cb:=hd.out.byte p (by omega)
        have cx : x < 800 → wr.cell? ⟨g,x,none⟩ = some (.int .u8 ((f x : Nat) : Int)):=fun h=>hd.out.byte x h
        have zx:=hd.out.frozen x
        have zt:=hd.out.frozen 803
        have ct:=hd.out.trc
        dsimp only at cb ct
        obtain ⟨c,hc⟩ : ∃ c,f p = c:=⟨_,rfl⟩
        rw [hc] at cb hb
        obtain ⟨t,rfl⟩ : ∃ t,c = t + 48:=⟨c - 48,by omega⟩
        obtain ⟨P,hP⟩ : ∃ P,t * K = P:=⟨_,rfl⟩
        have hPi : (t : Int) * (K : Int) = (P : Int):=by rw [← hP]; push_cast; rfl
        have hPl : P ≤ 9 * K:=by rw [← hP]; exact Nat.mul_le_mul_right _ (by omega)
        have hlt:=ls1_lt (n:=n') (d:=t) hn (by omega)
        rw [hP] at hlt
        obtain ⟨u,hu⟩ : ∃ u,(n' + P) / 10 = u:=⟨_,rfl⟩
        obtain ⟨v,hv⟩ : ∃ v,(n' + P) % 10 = v:=⟨_,rfl⟩
        have hui : ((n' : Int) + (P : Int)) / 10 = (u : Int):=by omega
        have hut : ((n' : Int) + (P : Int)).tdiv 10 = (u : Int):=by rw [Int.tdiv_eq_ediv_of_nonneg (by omega)]; exact hui
        have hvi : (n' : Int) + (P : Int) - 10 * (u : Int) = (v : Int):=by omega
        have hv9 : v ≤ 9:=by omega
        rw [hu] at hlt
        have h3:=hr1.out
        rw [ls1,hc,Nat.add_sub_cancel,hP,hu,hv] at h3
        have HC:=Lib.hid hc
        have HU:=Lib.hid hu
        have HV:=Lib.hid hv
        have HP:=Lib.hid hP
        have HDG:=Lib.hid hdg
        have HX:=Lib.hid hx
        have hxa : p ≤ x:=by omega
        have hxb : x ≤ 900:=by omega
        clear hc hu hv hP hdg hr1 hy hz
        by_cases hx8 : x < 800
        · rw [if_pos (by omega)] at h3
          rw [← HX.out] at h3
          have cx2:=cx hx8
          have H3:=Lib.hid h3
          clear h3 cx hx
          go_wp2_with (fail)
          go_roundg p
          case measure=>omega
          case rel =>
            refine ⟨p,upd f x (v + 48),u,tr,(p : Int) - 1,x,rfl,rfl,by omega,by go_num,HX.out,by omega,rfl,hlt,?_,H3,Lib.hid (hd.out.setB x hx8 _ (v + 48) (by omega)),Lib.hid (below_nd hg.out _ _)⟩
            intro i h5 h6
            rw [upd_else _ _ (by omega)]
            exact HDG.out i h5 (by omega)
        · rw [if_neg (by omega)] at h3
          rcases Nat.eq_zero_or_pos v with hv0 | hvp
          · subst hv0
            have H3:=Lib.hid (show ls1 K dl p f u tr = R1 by rw [← h3]; simp)
            clear h3 cx hx
            go_wp2_with (fail)
            go_roundg p
            case measure=>omega
            case rel=>exact ⟨p,f,u,tr,(p : Int) - 1,x,rfl,rfl,by omega,by go_num,HX.out,by omega,rfl,hlt,HDG.out.sub (Nat.le_refl _) (by omega),H3,hd,hg⟩
          · have d1 : ((v : Int) != 0) = true:=by simpa using (by omega : ¬ (v : Int) = 0)
            have H3:=Lib.hid (show ls1 K dl p f u true = R1 by rw [← h3,decide_eq_true (by omega : v ≠ 0)]; simp)
            clear h3 cx hx
            go_wp2_with (fail)
            go_roundg p
            case measure=>omega
            case rel=>exact ⟨p,f,u,true,(p : Int) - 1,x,rfl,rfl,by omega,by go_num,HX.out,by omega,rfl,hlt,HDG.out.sub (Nat.le_refl _) (by omega),H3,Lib.hid (hd.out.setTr true),Lib.hid (below_nd hg.out _ _)⟩
      | zero =>
        obtain rfl : z = -1:=by omega
        obtain rfl : y = dl:=by omega
        have h3 : (f,n',tr) = R1:=hr1.out
        subst h3
        have o5:=O5.out
        dsimp only at o5
        obtain ⟨R2,hR2⟩ : ∃ R2,ls2 y f n' = R2:=⟨_,rfl⟩
        have HR2:=Lib.hid hR2
        clear hR2 hr1 hy hz hdg
        go_wp2_with (fail)
        go_loopg [6,7,10,11] y (fun qq v n c d wx=>∃ (q : Nat) (f2 : Nat → Nat) (n2 : Nat),q = qq∧v = .int .i64 (q : Int)∧q ≤ y∧n = .int .u64 (n2 : Int)∧n2 < K∧Hid (n2 < 10 ^ q)∧Hid (ls2 q f2 n2 = R2)∧Hid (DecR wx g { s with f:=f2,tr:=tr })∧Hid (w.grownBy wx (some g)))
        case atStart=>exact ⟨y,f,n',rfl,rfl,Nat.le_refl _,rfl,hn,Lib.hid o5,HR2,hd,hg⟩
        case round =>
          obtain ⟨q2,f2,n2,rfl,rfl,hq2,rfl,hn2,hlt2,hr2,hd2,hg2⟩:=hrel
          clear hd hg hn o5
          rcases Nat.eq_zero_or_pos n2 with hn0 | hnp
          · subst hn0
            have h3 : ls2 q2 f2 0 = (f2,0):=by
              cases q2 with
              | zero=>rfl
              | succ q3=>rw [ls2,if_pos rfl]
            rw [hr2.out] at h3
            subst h3
            have c0:=hd2.out.ndc
            have c1:=hd2.out.dpc
            have z0:=hd2.out.frozen 800
            have z1:=hd2.out.frozen 801
            dsimp only at c0 c1
            have EQ:=Lib.hid (lsD_eq (s:=s) HK.out HDLE.out HR1.out HR2.out)
            dsimp only at EQ
            obtain ⟨dp1,hdp1⟩ : ∃ z,s.dp + (y : Int) = z:=⟨_,rfl⟩
            have e1 : IntKind.i64.wrap (s.dp + (y : Int)) = dp1:=by rw [IntKind.wrap_i64]; omega
            rw [hdp1] at EQ
            obtain ⟨ndy,hndy⟩ : ∃ n,s.nd + y = n:=⟨_,rfl⟩
            have e2 : (s.nd : Int) + (y : Int) = (ndy : Int):=by omega
            have hndb : ndy ≤ 900:=by omega
            rw [hndy] at EQ
            clear hndy hdp1 hlt2 hr2
            by_cases h800 : 800 ≤ ndy
            · rw [if_pos h800] at EQ
              have hd3:=((hd2.out.setNd ndy).setNd 800).setDp dp1
              have hg3:=below_nd (below_nd (below_nd hg2.out 800 (.int .i64 ((ndy : Nat) : Int))) 800 (.int .i64 ((800 : Nat) : Int))) 801 (.int .i64 dp1)
              have T1:=Lib.hid (trim_any g _ _ hd3 (show 800 ≤ 800 by decide))
              have HG3:=Lib.hid hg3
              clear hd3 hg3
              go_wp2_with (fail)
              refine T1.out.mono ?_
              rintro e w' ⟨rfl,hdw,hgw⟩
              go_wp2_with (fail)
              go_end0
              exact ⟨rfl,hdw.eq EQ.out,only_trans HG3.out hgw⟩
            · rw [if_neg h800] at EQ
              have hd3:=(hd2.out.setNd ndy).setDp dp1
              have hg3:=below_nd (below_nd hg2.out 800 (.int .i64 ((ndy : Nat) : Int))) 801 (.int .i64 dp1)
              have T1:=Lib.hid (trim_any g _ _ hd3 (show ndy ≤ 800 by omega))
              have HG3:=Lib.hid hg3
              clear hd3 hg3
              go_wp2_with (fail)
              refine T1.out.mono ?_
              rintro e w' ⟨rfl,hdw,hgw⟩
              go_wp2_with (fail)
              go_end0
              exact ⟨rfl,hdw.eq EQ.out,only_trans HG3.out hgw⟩
          · cases q2 with
            | zero=>have:=hlt2.out; simp at this; omega
            | succ q3 =>
              have d0 : decide (0 < n2) = true:=decide_eq_true hnp
              have h3:=hr2.out
              rw [ls2,if_neg (by omega)] at h3
              have h10 : n2 / 10 < 10 ^ q3:=by
                have h:=hlt2.out
                rw [Nat.pow_succ] at h
                omega
              obtain ⟨u,hu⟩ : ∃ u,n2 / 10 = u:=⟨_,rfl⟩
              obtain ⟨v,hv⟩ : ∃ v,n2 % 10 = v:=⟨_,rfl⟩
              have hui : (n2 : Int) / 10 = (u : Int):=by omega
              have hut : (n2 : Int).tdiv 10 = (u : Int):=by rw [Int.tdiv_eq_ediv_of_nonneg (by omega)]; exact hui
              have hvi : (n2 : Int) - 10 * (u : Int) = (v : Int):=by omega
              have hv9 : v ≤ 9:=by omega
              have huK : u < K:=by omega
              rw [hu,hv] at h3
              rw [hu] at h10
              have H3:=Lib.hid h3
              have H10:=Lib.hid h10
              have hq8 : q3 < 800:=by omega
              have cx:=hd2.out.byte q3 hq8
              have zx:=hd2.out.frozen q3
              clear h3 h10 hu hv hlt2 hr2
              go_wp2_with (fail)
              go_roundg q3
              case measure=>omega
              case rel=>exact ⟨q3,upd f2 q3 (v + 48),u,rfl,by go_num,by omega,rfl,huK,H10,H3,Lib.hid (hd2.out.setB q3 hq8 _ (v + 48) (by omega)),Lib.hid (below_nd hg2.out _ _)⟩
end LM
namespace LM
set_option maxRecDepth 1000000 in
theorem shift_up (g k : Nat) (s : Dec) (w : World) (hD : DecR w g s) (hs : DOk s) (h1 : 1 ≤ k) (hk : k ≤ 60) (hdp : -1000000 ≤ s.dp∧s.dp ≤ 1000000) (hct : CT w) :
    Calls Tryz.prog 179 #[.pointer (some ⟨g,0,none⟩),.int .i64 (k : Int)] w fun e w'=>e = .returned (.tuple #[])∧DW w g (lsD s k) w':=by
  have L1:=Lib.hid (left_any g k s w hD hs h1 hk hdp hct)
  have c0:=hD.ndc
  have hn:=hs.pos
  have d0 : ((s.nd : Int) == 0) = false:=by simpa using (by omega : ¬ (s.nd : Int) = 0)
  have d1 : decide (0 < k) = true:=decide_eq_true (by omega)
  have d2 : decide (60 < k) = false:=decide_eq_false (by omega)
  clear hD hs hdp hct
  go_enter Tryz.func179,Tryz.ntmps179
  go_wp2_with (fail)
  go_loopg [1] 0 (fun qq kk wr=>wr = w∧kk = .int .i64 (k : Int))
  case atStart=>exact ⟨rfl,rfl⟩
  case round =>
    obtain ⟨rfl,rfl⟩:=hrel
    go_wp2_with (fail)
    refine L1.out.mono ?_
    rintro e w' ⟨rfl,hdw⟩
    go_wp2_with (fail)
    go_end0
    exact ⟨rfl,hdw⟩
theorem rs_dp {s : Dec} (h : DOk s) {k : Nat} (hk : k ≤ 60) : s.dp - 62 ≤ (rsD s k).dp∧(rsD s k).dp ≤ s.dp:=by
  have h1:=(rs_ok h hk).2.1
  have h2:=pick_spec h.dig h.pos h.lead (K:=2 ^ k) (Nat.pow_pos (by decide)) 62 0 0 (PickI.start (two_61 hk))
  omega
theorem shR_dp : ∀ q s n,DOk s → n ≤ 60 * (q + 1) → s.dp - 62 * (q + 1) ≤ (shR q s n).dp∧(shR q s n).dp ≤ s.dp:=by
  intro q
  induction q with
  | zero=>intro s n h hn; have:=rs_dp h (k:=n) (by omega); unfold shR; omega
  | succ q ih =>
    intro s n h hn
    unfold shR
    split
    · have h1:=ih (rsD s 60) (n - 60) (rs_ok h (by decide)).1 (by omega)
      have h2:=rs_dp h (k:=60) (by decide)
      omega
    · have:=rs_dp h (k:=n) (by omega)
      omega
set_option maxRecDepth 1000000 in
theorem shift_down (g n q : Nat) (s : Dec) (w : World) (hD : DecR w g s) (hs : DOk s) (h1 : 1 ≤ n) (hn : n ≤ 60 * (q + 1)) (hq : q ≤ 10000) (hdp : -300000 ≤ s.dp∧s.dp ≤ 300000) :
    Calls Tryz.prog 179 #[.pointer (some ⟨g,0,none⟩),.int .i64 (-(n : Int))] w fun e w'=>e = .returned (.tuple #[])∧DW w g (shR q s n) w':=by
  have c0:=hD.ndc
  have hn1:=hs.pos
  have d0 : ((s.nd : Int) == 0) = false:=by simpa using (by omega : ¬ (s.nd : Int) = 0)
  have d1 : decide (0 < -(n : Int)) = false:=decide_eq_false (by omega)
  have d2 : decide (-(n : Int) < 0) = true:=decide_eq_true (by omega)
  have d5 : decide (0 < n) = true:=decide_eq_true (by omega)
  have d6 : decide ((n : Int) < 0) = false:=decide_eq_false (by omega)
  obtain ⟨R,hR⟩ : ∃ R,shR q s n = R:=⟨_,rfl⟩
  rw [hR]
  have HR:=Lib.hid hR
  have HS:=Lib.hid hs
  have HD:=Lib.hid hD
  have HDP:=Lib.hid hdp
  clear hD hs hdp hR
  go_enter Tryz.func179,Tryz.ntmps179
  go_wp2_with (fail)
  go_loopg [1] q (fun qq kk wr=>∃ (q2 m : Nat) (t : Dec),q2 = qq∧q2 ≤ q∧kk = .int .i64 (-(m : Int))∧1 ≤ m∧m ≤ 60 * (q2 + 1)∧Hid (DOk t)∧Hid (shR q2 t m = R)∧Hid (-300000 - 62 * ((q : Int) - q2) ≤ t.dp∧t.dp ≤ 300000)∧Hid (DecR wr g t)∧Hid (w.grownBy wr (some g)))
  case atStart=>exact ⟨q,n,s,rfl,Nat.le_refl _,rfl,h1,hn,HS,HR,Lib.hid (by have:=HDP.out; omega),HD,Lib.hid (only_refl _ _)⟩
  case round =>
    obtain ⟨q2,m,t,rfl,hq2,rfl,hm1,hm2,ht,hsh,hdp2,hd,hg⟩:=hrel
    clear HD h1 hn
    have hdp3:=hdp2.out
    by_cases h60 : 60 < m
    · obtain ⟨q3,rfl⟩ : ∃ q3,q2 = q3 + 1:=⟨q2 - 1,by omega⟩
      have d3 : decide (-(m : Int) < -60) = true:=decide_eq_true (by omega)
      have d4 : (-(m : Int)) < -60:=by omega
      have hsh2:=hsh.out
      rw [shR,if_pos h60] at hsh2
      have R1:=Lib.hid (right_any g 60 t wr hd.out ht.out (by decide) (by omega))
      have H5:=Lib.hid (rs_dp ht.out (k:=60) (by decide))
      have HO:=Lib.hid (rs_ok ht.out (k:=60) (by decide)).1
      have HSH:=Lib.hid hsh2
      clear hsh2 hdp3
      go_wp2_with (fail)
      refine R1.out.mono ?_
      rintro e w' ⟨rfl,hdw,hgw⟩
      have HDW:=Lib.hid hdw
      have HGW:=Lib.hid hgw
      clear hdw hgw
      go_wp2_with (fail)
      go_roundg q3
      case measure=>omega
      case rel=>exact ⟨q3,m - 60,rsD t 60,rfl,by omega,congrArg (Value.int .i64) (by omega),by omega,by omega,HO,HSH,Lib.hid (by have:=H5.out; have:=hdp2.out; omega),HDW,Lib.hid (only_trans hg.out HGW.out)⟩
    · have d3 : decide (-(m : Int) < -60) = false:=decide_eq_false (by omega)
      have hsh2:=hsh.out
      rw [shR_stop _ _ (by omega)] at hsh2
      have R1:=Lib.hid (right_any g m t wr hd.out ht.out (by omega) (by omega))
      rw [hsh2] at R1
      clear hsh2 hdp3
      go_wp2_with (fail)
      refine R1.out.mono ?_
      rintro e w' ⟨rfl,hdw,hgw⟩
      go_wp2_with (fail)
      go_end0
      exact ⟨rfl,hdw,only_trans hg.out hgw⟩
end LM
namespace LM
/-! jumps ahead -/
def ExJ (J : Nat → Act → World → Prop) (Q : Exit → Act → World → Prop) : Exit → Act → World → Prop
  | .goto l,a,w=>J l a w
  | e,a,w=>Q e a w
section
variable {P : Program} {a : Act} {w : World} {Q : Exit → Act → World → Prop}
theorem scope_ahead {c : Code} (J : Nat → Act → World → Prop) (rest : Nat → Code) (hf : ∀ l a w,J l a w → findLabel c l = some (rest l))
    (first : c.wp P (ExJ J Q) a w)
    (pass : ∀ l a w,J l a w → (rest l).wp P (ExJ (fun l' a' w'=>l' < l∧J l' a' w') Q) a w) : (Code.scope c).wp P Q a w:=by
  intro b k cs
  have jump : ∀ l a w,J l a w → gotoIn l (.inScope c :: k) = some (.code (rest l) :: .inScope c :: k):=fun l a w h=>by simp [gotoIn,hf l a w h]
  have key : ∀ n l a w,l ≤ n → J l a w → ∃ e a' w',Q e a' w'∧Arrives P (lone (b.at a (.code (rest l) :: .inScope c :: k)) cs w) b k cs e a' w':=by
    intro n
    induction n with
    | zero =>
      intro l a w hl h
      obtain ⟨e,a1,w1,hq,harr⟩:=pass l a w h b (.inScope c :: k) cs
      cases e with
      | normal=>exact ⟨.normal,a1,w1,hq,Steps.trans harr (.one step_inScope)⟩
      | exit id=>exact ⟨.exit id,a1,w1,hq,fun k' hk=>harr k' (by simp [exitTo,hk])⟩
      | goto l'=>exact absurd hq.1 (by omega)
      | ret=>exact ⟨_,a1,w1,hq,harr⟩
      | panic ch=>exact ⟨_,a1,w1,hq,harr⟩
      | outgrown=>exact ⟨_,a1,w1,hq,harr⟩
    | succ n ih =>
      intro l a w hl h
      obtain ⟨e,a1,w1,hq,harr⟩:=pass l a w h b (.inScope c :: k) cs
      cases e with
      | normal=>exact ⟨.normal,a1,w1,hq,Steps.trans harr (.one step_inScope)⟩
      | exit id=>exact ⟨.exit id,a1,w1,hq,fun k' hk=>harr k' (by simp [exitTo,hk])⟩
      | goto l' =>
        obtain ⟨e2,a2,w2,hq2,harr2⟩:=ih l' a1 w1 (by have:=hq.1; omega) hq.2
        exact ⟨e2,a2,w2,hq2,.of_steps (harr _ (jump l' a1 w1 hq.2)) harr2⟩
      | ret=>exact ⟨_,a1,w1,hq,harr⟩
      | panic ch=>exact ⟨_,a1,w1,hq,harr⟩
      | outgrown=>exact ⟨_,a1,w1,hq,harr⟩
  obtain ⟨e,a1,w1,hq,harr⟩:=first b (.inScope c :: k) cs
  cases e with
  | normal=>exact ⟨.normal,a1,w1,hq,.head step_scope (Steps.trans harr (.one step_inScope))⟩
  | exit id=>exact ⟨.exit id,a1,w1,hq,fun k' hk=>.head step_scope (harr k' (by simp [exitTo,hk]))⟩
  | goto l =>
    obtain ⟨e2,a2,w2,hq2,harr2⟩:=key l l a1 w1 (Nat.le_refl _) hq
    exact ⟨e2,a2,w2,hq2,.of_steps (.head step_scope (harr _ (jump l a1 w1 hq))) harr2⟩
  | ret=>exact ⟨_,a1,w1,hq,.of_steps (.one step_scope) harr⟩
  | panic ch=>exact ⟨_,a1,w1,hq,.of_steps (.one step_scope) harr⟩
  | outgrown=>exact ⟨_,a1,w1,hq,.of_steps (.one step_scope) harr⟩
theorem scope_ahead' {c : Code} (J : Nat → Act → World → Prop) (hf : ∀ l a w,J l a w → findLabel c l = some ((findLabel c l).getD .skip))
    (first : c.wp P (ExJ J Q) a w)
    (pass : ∀ l a w,J l a w → ((findLabel c l).getD .skip).wp P (ExJ (fun l' a' w'=>l' < l∧J l' a' w') Q) a w) : (Code.scope c).wp P Q a w :=
  scope_ahead J (fun l=>(findLabel c l).getD .skip) hf first pass
end
theorem ExJ_ret {J : Nat → Act → World → Prop} {Q : Exit → Act → World → Prop} {a : Act} {w : World} : ExJ J Q .ret a w = Q .ret a w:=rfl
/-! the bits -/
def fbOut (m : Nat) (e : Int) (neg : Bool) : Nat:=(m % 4503599627370496 ||| (e + 1023).toNat % 2048 * 4503599627370496) ||| (if neg then 9223372036854775808 else 0)
def fbFin (m : Nat) (e : Int) (neg : Bool) : Nat × Bool:=(fbOut m (if m / 4503599627370496 % 2 = 0 then -1023 else e) neg,false)
def fbEnd (t : Dec) (e : Int) : Nat × Bool :=
  if 1024 ≤ e then (fbOut 0 1024 t.neg,true)
  else if riD (lsD t 53) = 9007199254740992 then (if 1024 ≤ e + 1 then (fbOut 0 1024 t.neg,true) else fbFin 4503599627370496 (e + 1) t.neg)
  else fbFin (riD (lsD t 53)) e t.neg
def fbLow (t : Dec) (e : Int) : Nat × Bool:=if e < -1022 then fbEnd (shR 1600 t (-1022 - e).toNat) (-1022) else fbEnd t e
def fbUp (t : Dec) (e : Int) : Nat × Bool:=fbLow (fbB (mB t) t e).1 ((fbB (mB t) t e).2 - 1)
def fbRes (s : Dec) : Nat × Bool :=
  if 310 < s.dp then (fbOut 0 1024 s.neg,true)
  else if s.dp < -330 then (fbOut 0 (-1023) s.neg,false)
  else fbUp (fbA (mA s) s 0).1 (fbA (mA s) s 0).2
theorem ri_lt (s : Dec) : riD s < 18446744073709551616:=by
  unfold riD
  split
  · decide
  · split
    · exact Nat.mod_lt _ (by decide)
    · exact riN_lt _ _ _
/-! what the variables hold -/
def powtabL : List Nat:=[1,3,6,9,13,16,19,23,26]
structure FX (w : World) : Prop where
  ct : CT w
  pw : ∃ b n c,w.cell? ⟨18,0,none⟩ = some (.slice (some ⟨b,n,none⟩) 9 c)∧b < w.heap.size∧∀ (j : Nat) x,powtabL[j]? = some x → w.cell? ⟨b,n + j,none⟩ = some (.int .i64 ((x : Nat) : Int))
  i0 : w.cell? ⟨16,0,none⟩ = some (.int .u64 52)
  i1 : w.cell? ⟨16,1,none⟩ = some (.int .u64 11)
  i2 : w.cell? ⟨16,2,none⟩ = some (.int .i64 (-1023))
  size : 12 < w.heap.size∧18 < w.heap.size∧16 < w.heap.size
theorem FX.below {w w' : World} (h : FX w) (hb : Below w.heap.size w w') : FX w':=by
  have hc : ∀ g i v,g < w.heap.size → w.cell? ⟨g,i,none⟩ = some v → w'.cell? ⟨g,i,none⟩ = some v:=fun g i v hg hv =>
    (World.cell?_of_block (a:=⟨g,i,none⟩) (hb.block g hg)).trans hv
  obtain ⟨b,n,c,h1,h2,h3⟩:=h.ct
  obtain ⟨b',n',c',k1,k2,k3⟩:=h.pw
  obtain ⟨a1,a2,a3⟩:=h.size
  have:=hb.size
  exact ⟨⟨b,n,c,hc _ _ _ a1 h1,by omega,fun k x hx=>⟨hc _ _ _ h2 (h3 k x hx).1,hc _ _ _ h2 (h3 k x hx).2⟩⟩,⟨b',n',c',hc _ _ _ a2 k1,by omega,fun j x hx=>hc _ _ _ k2 (k3 j x hx)⟩,
    hc _ _ _ a3 h.i0,hc _ _ _ a3 h.i1,hc _ _ _ a3 h.i2,by omega,by omega,by omega⟩
theorem powtab_at {d : Nat} (h : d < 9) : powtabL[d]? = some (shA d):=by
  obtain rfl | rfl | rfl | rfl | rfl | rfl | rfl | rfl | rfl : d = 0 ∨ d = 1 ∨ d = 2 ∨ d = 3 ∨ d = 4 ∨ d = 5 ∨ d = 6 ∨ d = 7 ∨ d = 8:=by omega
  all_goals rfl
end LM
end Go.Proofs.YtihbgghlnppkiaaGreatDoor
