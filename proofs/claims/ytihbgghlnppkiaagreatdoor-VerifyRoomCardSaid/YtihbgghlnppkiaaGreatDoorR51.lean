import Derived.Test.YtihbgghlnppkiaaGreatDoorR49
import Derived.Test.YtihbgghlnppkiaaGreatDoorR01
import Derived.Deep.DeepCutAuto
import Derived.Deep.CutBlock
import Derived.Laws.BitsAllLaws
import Derived.StillTailTactics
set_option linter.unusedVariables false
set_option linter.unusedSimpArgs false
set_option maxRecDepth 100000
set_option maxHeartbeats 16000000
namespace Go.Proofs.YtihbgghlnppkiaaGreatDoor
open Go Go.RowKit
namespace LM
theorem div_int {a b c : Nat} (h : a / b = c) : (a : Int) / (b : Int) = (c : Int):=by rw [← h]; push_cast; rfl
theorem pick_stop {f : Nat → Nat} {nd K : Nat} (q r n : Nat) (h : K ≤ n) : pick f nd K q r n = (r,n):=by
  cases q with
  | zero=>rfl
  | succ q=>unfold pick; rw [if_neg (by omega)]
theorem pick_go {f : Nat → Nat} {nd K : Nat} (q r n : Nat) (h : n < K) : pick f nd K (q + 1) r n = pick f nd K q (r + 1) (n * 10 + dgt f nd r):=by
  rw [pick,if_pos h]
theorem pick_big {f : Nat → Nat} {nd K q r n : Nat} (h : PickI f nd K q r n) (hr : 1 ≤ r) : 1 ≤ n:=by
  rcases h with ⟨h,_⟩ | ⟨_,h,_⟩
  · omega
  · exact h
theorem dgt_in {f : Nat → Nat} {nd r : Nat} (h : r < nd) : dgt f nd r = f r - 48:=by unfold dgt; rw [if_pos h]
theorem dgt_out {f : Nat → Nat} {nd r : Nat} (h : nd ≤ r) : dgt f nd r = 0:=by unfold dgt; rw [if_neg (by omega)]
theorem two_le60 {k : Nat} (h : k ≤ 60) : 2 ^ k ≤ 1152921504606846976:=by
  have:=Nat.pow_le_pow_right (n:=2) (by decide) h
  simpa using this
theorem DecR.setB {w : World} {g : Nat} {s : Dec} (h : DecR w g s) (i : Nat) (hi : i < 800) (z : Int) (v : Nat) (e : z = (v : Int)) : DecR (w.setCell ⟨g,i,none⟩ (.int .u8 z)) g { s with f:=upd s.f i v }:=by
  subst e
  exact h.setByte i hi v
theorem mask_of {k K n : Nat} (hK : 2 ^ k = K) (hk : k ≤ 60) (hn : n < 18446744073709551616) : bits .and .u64 (n : Int) ((K : Int) - 1) = ((n % K : Nat) : Int):=by
  have h0 : 0 < 2 ^ k:=Nat.pow_pos (by decide)
  have hb:=two_le60 hk
  have e : (K : Int) - 1 = ((K - 1 : Nat) : Int):=by omega
  rw [e,u64_and_nat n (K - 1) hn (by omega),← hK,Nat.and_two_pow_sub_one_eq_mod]
theorem rsD_eq {s : Dec} {k K r1 n1 : Nat} {R2 : (Nat → Nat) × Nat × Nat} {R3 : (Nat → Nat) × Nat × Bool} (hK : 2 ^ k = K) (h1 : pick s.f s.nd K 62 0 0 = (r1,n1)) (h2 : rs2 K r1 (s.nd - r1) s.f 0 n1 = R2) (h3 : rs3 K (k + 2) R2.1 R2.2.1 R2.2.2 s.tr = R3) :
    trimD { f:=R3.1,nd:=R3.2.1,dp:=s.dp - ((r1 : Int) - 1),neg:=s.neg,tr:=R3.2.2 } = rsD s k:=by
  subst hK h2 h3
  unfold rsD
  simp only [h1]
set_option maxRecDepth 1000000 in
theorem right_any (g k : Nat) (s : Dec) (w : World) (hD : DecR w g s) (hs : DOk s) (hk : k ≤ 60) (hdp : -1000000 ≤ s.dp∧s.dp ≤ 1000000) :
    Calls Tryz.prog 213 #[.pointer (some ⟨g,0,none⟩),.int .u64 (k : Int)] w fun e w'=>e = .returned (.tuple #[])∧DW w g (rsD s k) w':=by
  have hKb:=two_le60 hk
  have hK0 : 0 < 2 ^ k:=Nat.pow_pos (by decide)
  have hI0:=PickI.start (f:=s.f) (nd:=s.nd) (two_61 hk)
  obtain ⟨K,hK⟩ : ∃ K,2 ^ k = K:=⟨_,rfl⟩
  have hpi : (2 : Int) ^ k = (K : Int):=by rw [← hK]; push_cast; rfl
  have hmin : min k 64 = k:=Nat.min_eq_left (by omega)
  rw [hK] at hKb hK0 hI0
  obtain ⟨R,hR⟩ : ∃ R,pick s.f s.nd K 62 0 0 = R:=⟨_,rfl⟩
  have HI0:=Lib.hid hI0
  have HR:=Lib.hid hR
  have HK:=Lib.hid hK
  have HS:=Lib.hid hs
  have HD:=Lib.hid hD
  have c0:=hD.ndc
  have hnd:=hs.most
  have hnd1:=hs.pos
  clear hD hI0 hR hK hs
  go_enter Tryz.func213,Tryz.ntmps213
  go_upto_block 0 with (fail)
  go_cut [4,6] (fun r n wx=>r = .int .i64 ((R.1 : Nat) : Int)∧n = .int .u64 ((R.2 : Nat) : Int)∧wx = w)
  case first =>
    go_wp2_with (fail)
    go_loopg [4,6,7] 62 (fun qq r n c wr=>wr = w∧∃ q r' n' : Nat,q = qq∧r' ≤ s.nd∧q ≤ 62∧r = .int .i64 (r' : Int)∧n = .int .u64 (n' : Int)∧n' < 10 * K∧Hid (PickI s.f s.nd K q r' n')∧Hid (pick s.f s.nd K q r' n' = R))
    case atStart=>exact ⟨rfl,62,0,0,rfl,Nat.zero_le _,by omega,rfl,rfl,by omega,HI0,HR⟩
    case round =>
      obtain ⟨rfl,q,r',n',rfl,hr,hq62,rfl,rfl,hn10,hI,hp⟩:=hrel
      by_cases hlt : n' < K
      · have hq0 : (n' : Int) / (K : Int) = ((0 : Nat) : Int):=div_int (Nat.div_eq_of_lt hlt)
        obtain ⟨q',rfl⟩ : ∃ q',q' + 1 = q:=⟨q - 1,by have:=hI.out.pos hlt; omega⟩
        have hg:=dgt_le HS.out.dig r'
        by_cases hrn : r' < s.nd
        · have cb:=HD.out.byte r' (by omega)
          have hb:=HS.out.dig r' (Nat.zero_le _) hrn
          have hgd:=dgt_in (f:=s.f) hrn
          obtain ⟨c,hc⟩ : ∃ c,s.f r' = c:=⟨_,rfl⟩
          rw [hc] at cb hb hgd
          have d1 : decide (s.nd ≤ r') = false:=decide_eq_false (by omega)
          have HG:=Lib.hid hgd
          clear hc hgd
          go_wp2_with (fail)
          go_roundg q'
          case measure=>omega
          case rel=>exact ⟨rfl,q',r' + 1,n' * 10 + dgt s.f s.nd r',rfl,by omega,by omega,by go_num,by rw [HG.out]; exact congrArg (Value.int .u64) (by omega),by omega,Lib.hid (hI.out.next hlt HS.out.dig HS.out.pos HS.out.lead),Lib.hid (by rw [← hp.out,pick_go _ _ _ hlt])⟩
        · have d1 : decide (s.nd ≤ r') = true:=decide_eq_true (by omega)
          have hn1:=pick_big hI.out (by omega)
          have d2 : ((n' : Int) == 0) = false:=by simpa using (by omega : ¬ (n' : Int) = 0)
          go_wp2_with (fail)
          clear hq0
          go_loopg [4,6] (q' + 1) (fun qq r n wx=>wx = wr∧∃ q r2 n2 : Nat,q = qq∧s.nd ≤ r2∧r2 + q ≤ 900∧r = .int .i64 (r2 : Int)∧n = .int .u64 (n2 : Int)∧n2 < 10 * K∧Hid (PickI s.f s.nd K q r2 n2)∧Hid (pick s.f s.nd K q r2 n2 = R))
          case atStart=>exact ⟨rfl,q' + 1,r',n',rfl,by omega,by omega,rfl,rfl,hn10,hI,hp⟩
          case round =>
            obtain ⟨rfl,q2,r2,n2,rfl,hr2,hrq,rfl,rfl,hn2,hI2,hp2⟩:=hrel
            clear hI hp hlt hn1 d2
            by_cases hlt2 : n2 < K
            · have hq0 : (n2 : Int) / (K : Int) = ((0 : Nat) : Int):=div_int (Nat.div_eq_of_lt hlt2)
              obtain ⟨q3,rfl⟩ : ∃ q3,q3 + 1 = q2:=⟨q2 - 1,by have:=hI2.out.pos hlt2; omega⟩
              have HG:=Lib.hid (dgt_out (f:=s.f) hr2)
              go_wp2_with (fail)
              go_roundg q3
              case measure=>omega
              case rel=>exact ⟨rfl,q3,r2 + 1,n2 * 10 + dgt s.f s.nd r2,rfl,by omega,by omega,by go_num,by rw [HG.out]; exact congrArg (Value.int .u64) (by omega),by rw [HG.out]; omega,Lib.hid (hI2.out.next hlt2 HS.out.dig HS.out.pos HS.out.lead),Lib.hid (by rw [← hp2.out,pick_go _ _ _ hlt2])⟩
            · have hst:=pick_stop (f:=s.f) (nd:=s.nd) (K:=K) q2 r2 n2 (by omega)
              rw [hst] at hp2
              obtain ⟨d,hd⟩ : ∃ d,n2 / K = d:=⟨_,rfl⟩
              have hd1 : 1 ≤ d:=by rw [← hd]; exact (Nat.le_div_iff_mul_le hK0).2 (by omega)
              have hq0 : (n2 : Int) / (K : Int) = (d : Int):=div_int hd
              have d2 : ((d : Int) == 0) = false:=by simpa using (by omega : ¬ (d : Int) = 0)
              clear hst hd
              go_wp2_with (fail)
              go_meet
              case rel=>exact ⟨by rw [← hp2.out],by rw [← hp2.out],rfl⟩
      · have hst:=pick_stop (f:=s.f) (nd:=s.nd) (K:=K) q r' n' (by omega)
        rw [hst] at hp
        obtain ⟨d,hd⟩ : ∃ d,n' / K = d:=⟨_,rfl⟩
        have hd1 : 1 ≤ d:=by rw [← hd]; exact (Nat.le_div_iff_mul_le hK0).2 (by omega)
        have hq0 : (n' : Int) / (K : Int) = (d : Int):=div_int hd
        have d2 : ((d : Int) == 0) = false:=by simpa using (by omega : ¬ (d : Int) = 0)
        clear hst hd
        go_wp2_with (fail)
        go_meet
        case rel=>exact ⟨by rw [← hp.out],by rw [← hp.out],rfl⟩
  case rest =>
    obtain ⟨rfl,rfl,rfl⟩:=hcut
    obtain ⟨p2,p3,p4,-,p5⟩:=pick_spec HS.out.dig HS.out.pos HS.out.lead hK0 62 0 0 HI0.out
    rw [HR.out] at p2 p3 p4 p5
    obtain ⟨r1,n1⟩:=R
    dsimp only at p2 p3 p4 p5 ⊢
    have c1:=HD.out.dpc
    have z1:=HD.out.frozen 801
    obtain ⟨dp1,hdp1⟩ : ∃ z,s.dp - ((r1 : Int) - 1) = z:=⟨_,rfl⟩
    have e1 : IntKind.i64.wrap (s.dp - ((r1 : Int) - 1)) = dp1:=by rw [IntKind.wrap_i64]; omega
    have e2 : IntKind.i64.wrap ((r1 : Int) - 1) = (r1 : Int) - 1:=by rw [IntKind.wrap_i64]; omega
    have HDP:=Lib.hid hdp1
    clear hdp1
    go_wp2_with (fail)
    obtain ⟨R2,hR2⟩ : ∃ R2,rs2 K r1 (s.nd - r1) s.f 0 n1 = R2:=⟨_,rfl⟩
    have HR2:=Lib.hid hR2
    have hDs:=HD.out.setDp dp1
    have HD1:=Lib.hid hDs
    have HG1:=Lib.hid (below_nd (only_refl wc (some g)) 801 (.int .i64 dp1))
    have a2:=rs2_spec K r1 hK0 p4 (s.nd - r1) s.f 0 n1 p3 (fun i _ hi=>absurd hi (by omega)) (by
      by_cases hc : r1 ≤ s.nd
      · exact HS.out.dig.sub (by omega) (by omega)
      · exact fun i h1 h2=>by omega)
    rw [hR2] at a2
    have A2:=Lib.hid a2
    clear c0 c1 z1 HD hDs hR2 a2 e1 e2
    go_loopg [4,5,6,9,10] (s.nd - r1) (fun qq r v n c d wr=>∃ (q : Nat) (f : Nat → Nat) (v' n' x : Nat),q = qq∧Hid (x = v' + r1)∧v' + r1 ≤ x∧Hid (q = s.nd - x)∧v' ≤ 800∧r = .int .i64 (x : Int)∧v = .int .i64 (v' : Int)∧n = .int .u64 (n' : Int)∧n' < 10 * K∧x ≤ 900∧Dig f x s.nd∧Hid (rs2 K r1 q f v' n' = R2)∧Hid (DecR wr g { s with dp:=dp1,f:=f })∧Hid (wc.grownBy wr (some g)))
    case atStart=>exact ⟨s.nd - r1,s.f,0,n1,r1,rfl,Lib.hid (by omega),by omega,Lib.hid rfl,by omega,rfl,rfl,rfl,p3,by omega,HS.out.dig.sub (by omega) (Nat.le_refl _),HR2,HD1,HG1⟩
    case round =>
      obtain ⟨q,f,v',n',x,rfl,hx,hvx,hq,hv8,rfl,rfl,rfl,hn10,hx9,hdig,hr2,hd,hg⟩:=hrel
      clear HD1 HG1
      have c0:=hd.out.ndc
      dsimp only at c0
      by_cases hlt : x < s.nd
      · have hbx:=hdig x (Nat.le_refl _) hlt
        have cb:=hd.out.byte x (by omega)
        have cv:=hd.out.byte v' (by omega)
        have zv:=hd.out.frozen v'
        dsimp only at cb cv
        obtain ⟨c,hc⟩ : ∃ c,f x = c:=⟨_,rfl⟩
        obtain ⟨d,hdd⟩ : ∃ d,n' / K = d:=⟨_,rfl⟩
        obtain ⟨m,hmm⟩ : ∃ m,n' % K = m:=⟨_,rfl⟩
        have hm1 : m < K:=by rw [← hmm]; exact Nat.mod_lt _ hK0
        have hd9 : d ≤ 9:=by rw [← hdd]; exact div_9 hK0 hn10
        have hdi : (n' : Int) / (K : Int) = (d : Int):=div_int hdd
        have hma : bits .and .u64 (n' : Int) ((K : Int) - 1) = (m : Int):=by rw [mask_of HK.out hk (by omega),hmm]
        rw [hc] at cb hbx
        have HC:=Lib.hid hc
        have HDD:=Lib.hid hdd
        have HMM:=Lib.hid hmm
        have HDG:=Lib.hid hdig
        clear hc hdd hmm hdig
        go_wp2_with (fail)
        go_roundg (q - 1)
        case measure=>have:=hq.out; omega
        case rel =>
          have hq1 : q = (q - 1) + 1:=by have:=hq.out; omega
          refine ⟨q - 1,upd f v' (d + 48),v' + 1,m * 10 + (c - 48),x + 1,rfl,Lib.hid (by have:=hx.out; omega),by omega,Lib.hid (by have:=hq.out; omega),by omega,by go_num,by go_num,congrArg (Value.int .u64) (by omega),by omega,by omega,?_,Lib.hid ?_,Lib.hid (hd.out.setB v' (by omega) _ (d + 48) (by omega)),Lib.hid (below_nd hg.out _ _)⟩
          · exact (Dig.upd HDG.out (by omega) (by omega)).sub (by omega) (Nat.le_refl _)
          · have h:=hr2.out
            rw [hq1,rs2,HDD.out,HMM.out,← hx.out,HC.out] at h
            exact h
      · have hq0 : q = 0:=by have:=hq.out; omega
        have h2:=hr2.out
        rw [hq0] at h2
        have h2 : (f,v',n') = R2:=h2
        subst h2
        obtain ⟨R3,hR3⟩ : ∃ R3,rs3 K (k + 2) f v' n' s.tr = R3:=⟨_,rfl⟩
        have HR3:=Lib.hid hR3
        have a3:=A2.out.2.2.1
        have e3:=A2.out.1
        dsimp only at a3 e3
        rw [Nat.zero_add] at e3
        rw [Nat.zero_add,← e3] at a3
        have hI3 : Rs3I k (k + 2) n':=⟨by rw [HK.out]; exact hn10,.inl rfl⟩
        have HI3:=Lib.hid hI3
        have hg2:=hd.out.trc
        dsimp only at hg2
        clear hR3 hq0 e3 hI3 hdig hr2 hq hx hg2
        go_wp2_with (fail)
        clear c0
        go_loopg [5,6,11] (k + 2) (fun qq v n d wx=>∃ (q : Nat) (f2 : Nat → Nat) (v2 n2 : Nat) (tr : Bool),q = qq∧q ≤ k + 2∧v2 ≤ 800∧v = .int .i64 (v2 : Int)∧n = .int .u64 (n2 : Int)∧n2 < 10 * K∧Hid (Rs3I k q n2)∧Dig f2 0 v2∧Hid (rs3 K q f2 v2 n2 tr = R3)∧Hid (DecR wx g { s with dp:=dp1,f:=f2,tr:=tr })∧Hid (wc.grownBy wx (some g)))
        case atStart=>exact ⟨k + 2,f,v',n',s.tr,rfl,Nat.le_refl _,hv8,rfl,rfl,hn10,HI3,a3,HR3,hd,hg⟩
        case round =>
          obtain ⟨q3,f2,v2,n2,tr,rfl,hq3,hv2,rfl,rfl,hn2,hI,hdg,hr3,hd2,hg2⟩:=hrel
          clear hd hg HI3 a3
          rcases Nat.eq_zero_or_pos n2 with hn0 | hnp
          · subst hn0
            have h3 : rs3 K q3 f2 v2 0 tr = (f2,v2,tr):=by
              cases q3 with
              | zero=>rfl
              | succ q3=>rw [rs3,if_pos rfl]
            rw [hr3.out] at h3
            subst h3
            have c0:=hd2.out.ndc
            have z0:=hd2.out.frozen 800
            dsimp only at c0
            have T1:=Lib.hid (trim_any g { s with dp:=dp1,f:=f2,tr:=tr,nd:=v2 } (wr.setCell ⟨g,800,none⟩ (.int .i64 (v2 : Int))) (hd2.out.setNd v2) hv2)
            go_wp2_with (fail)
            refine T1.out.mono ?_
            rintro e w' ⟨rfl,hdw,hgw⟩
            go_wp2_with (fail)
            go_end0
            refine ⟨rfl,hdw.eq ?_,only_trans (below_nd hg2.out _ _) hgw⟩
            have:=rsD_eq (s:=s) HK.out HR.out HR2.out HR3.out
            rw [← this,HDP.out]
          · have hq2:=hI.out.pos (by omega)
            obtain ⟨q4,rfl⟩ : ∃ q4,q3 = q4 + 1:=⟨q3 - 1,by omega⟩
            have hI4:=hI.out.next (q:=q4) (by omega)
            have d0 : decide (0 < n2) = true:=decide_eq_true hnp
            obtain ⟨d,hdd⟩ : ∃ d,n2 / K = d:=⟨_,rfl⟩
            obtain ⟨m,hmm⟩ : ∃ m,n2 % K = m:=⟨_,rfl⟩
            have hm1 : m < K:=by rw [← hmm]; exact Nat.mod_lt _ hK0
            have hd9 : d ≤ 9:=by rw [← hdd]; exact div_9 hK0 hn2
            have hdi : (n2 : Int) / (K : Int) = (d : Int):=div_int hdd
            have hma : bits .and .u64 (n2 : Int) ((K : Int) - 1) = (m : Int):=by rw [mask_of HK.out hk (by omega),hmm]
            rw [HK.out,hmm] at hI4
            have HI4:=Lib.hid hI4
            have HDD:=Lib.hid hdd
            have HMM:=Lib.hid hmm
            have HDG:=Lib.hid hdg
            have hn0 : n2 ≠ 0:=by omega
            have h3:=hr3.out
            rw [rs3,if_neg hn0,hdd,hmm] at h3
            clear hdd hmm hdg hI4 hI hr3 hn0
            by_cases hv : v2 < 800
            · rw [if_pos hv] at h3
              have H3:=Lib.hid h3
              clear h3
              have cv:=hd2.out.byte v2 hv
              have zv:=hd2.out.frozen v2
              dsimp only at cv
              go_wp2_with (fail)
              go_roundg q4
              case measure=>omega
              case rel =>
                refine ⟨q4,upd f2 v2 (d + 48),v2 + 1,m * 10,tr,rfl,by omega,by omega,by go_num,congrArg (Value.int .u64) (by omega),by omega,HI4,?_,H3,Lib.hid (hd2.out.setB v2 hv _ (d + 48) (by omega)),Lib.hid (below_nd hg2.out _ _)⟩
                intro i _ hi
                by_cases e : i = v2
                · subst e; rw [upd_same]; omega
                · rw [upd_else _ _ e]; exact HDG.out i (Nat.zero_le _) (by omega)
            · rw [if_neg hv] at h3
              have ct:=hd2.out.trc
              have zt:=hd2.out.frozen 803
              dsimp only at ct
              rcases Nat.eq_zero_or_pos d with hd0 | hdp0
              · subst hd0
                have H3:=Lib.hid (show rs3 K q4 f2 v2 (m * 10) tr = R3 by rw [← h3]; simp)
                clear h3
                go_wp2_with (fail)
                go_roundg q4
                case measure=>omega
                case rel=>exact ⟨q4,f2,v2,m * 10,tr,rfl,by omega,by omega,rfl,congrArg (Value.int .u64) (by omega),by omega,HI4,HDG.out,H3,hd2,hg2⟩
              · have d1 : decide (0 < d) = true:=decide_eq_true hdp0
                have H3:=Lib.hid (show rs3 K q4 f2 v2 (m * 10) true = R3 by rw [← h3,d1]; simp)
                clear h3
                go_wp2_with (fail)
                go_roundg q4
                case measure=>omega
                case rel=>exact ⟨q4,f2,v2,m * 10,true,rfl,by omega,by omega,rfl,congrArg (Value.int .u64) (by omega),by omega,HI4,HDG.out,H3,Lib.hid (hd2.out.setTr true),Lib.hid (below_nd hg2.out _ _)⟩
end LM
namespace LM
theorem u64m (n : Int) : IntKind.u64.wrap n = n % 18446744073709551616:=by simp [IntKind.wrap,IntKind.bits,IntKind.signed]
set_option maxRecDepth 1000000 in
theorem sru_any (g : Nat) (s : Dec) (n : Int) (w : World) (hD : DecR w g s) (hn : s.nd ≤ 800) (hd : Dig s.f 0 s.nd) (h1 : -1000000 ≤ n) (h2 : n ≤ 1000000) :
    Calls Tryz.prog 214 #[.pointer (some ⟨g,0,none⟩),.int .i64 n] w fun e w'=>e = .returned (.bool (sruB s n))∧w = w':=by
  have c0:=hD.ndc
  by_cases hb : n < 0 ∨ (s.nd : Int) ≤ n
  · have e : sruB s n = false:=by unfold sruB; rw [if_pos hb]
    rw [e]
    clear hD hd e
    by_cases h0 : n < 0
    · have d0 : decide (n < 0) = true:=decide_eq_true h0
      clear hb
      go_enter Tryz.func214,Tryz.ntmps214
      go_wp2_with (fail)
      go_ret
      exact ⟨rfl,rfl⟩
    · have d0 : decide (n < 0) = false:=decide_eq_false h0
      have h3 : (s.nd : Int) ≤ n:=by omega
      have d1 : decide ((s.nd : Int) ≤ n) = true:=decide_eq_true h3
      clear hb
      go_enter Tryz.func214,Tryz.ntmps214
      go_wp2_with (fail)
      go_ret
      exact ⟨rfl,rfl⟩
  · obtain ⟨m,rfl⟩ : ∃ m : Nat,n = (m : Int):=⟨n.toNat,by omega⟩
    have hm : m < s.nd:=by omega
    have e0 : (m : Int).toNat = m:=by omega
    have d0 : decide ((m : Int) < 0) = false:=decide_eq_false (by omega)
    have d1 : decide (s.nd ≤ m) = false:=decide_eq_false (by omega)
    have cb:=hD.byte m (by omega)
    have hbm:=hd m (Nat.zero_le _) hm
    obtain ⟨c,hc⟩ : ∃ c,s.f m = c:=⟨_,rfl⟩
    rw [hc] at cb hbm
    by_cases h53 : c = 53∧m + 1 = s.nd
    · obtain ⟨rfl,hmn⟩:=h53
      have ct:=hD.trc
      have e : sruB s (m : Int) = if s.tr then true else decide (0 < (m : Int)) && decide ((s.f (m - 1) - 48) % 2 ≠ 0):=by
        unfold sruB
        rw [if_neg hb,e0,if_pos ⟨hc,hmn⟩]
      rw [e]
      have d2 : ((m : Int) + 1 == (s.nd : Int)) = true:=by simpa using (by omega : (m : Int) + 1 = s.nd)
      have d3 : (m + 1 == s.nd) = true:=by simpa using hmn
      cases htr : s.tr
      · rw [htr] at ct
        rcases Nat.eq_zero_or_pos m with hm0 | hmp
        · have dz : decide (0 < m) = false:=decide_eq_false (by omega)
          have dz2 : decide (0 < (m : Int)) = false:=decide_eq_false (by omega)
          rw [dz2]
          clear hD hd e hb hc htr hmn hm0
          go_enter Tryz.func214,Tryz.ntmps214
          go_wp2_with (fail)
          go_ret
          exact ⟨by simp,rfl⟩
        · obtain ⟨p,hp⟩ : ∃ p,m - 1 = p:=⟨_,rfl⟩
          have hpi : (m : Int) - 1 = (p : Int):=by omega
          have hp8 : p < 800:=by omega
          have dz : decide (0 < m) = true:=decide_eq_true hmp
          have dz2 : decide (0 < (m : Int)) = true:=decide_eq_true (by omega)
          have cp:=hD.byte p (by omega)
          have hbp:=hd p (Nat.zero_le _) (by omega)
          rw [hp]
          rw [dz2]
          obtain ⟨x,hx⟩ : ∃ x,s.f p = x:=⟨_,rfl⟩
          rw [hx] at cp hbp ⊢
          obtain ⟨t,rfl⟩ : ∃ t,x = t + 48:=⟨x - 48,by omega⟩
          rw [Nat.add_sub_cancel]
          obtain ⟨v,hv⟩ : ∃ v,t % 2 = v:=⟨_,rfl⟩
          rw [hv]
          have ht9 : t ≤ 9:=by omega
          have hvi : (t : Int) % 2 = (v : Int):=by omega
          have hvt : (t : Int).tmod 2 = (v : Int):=by rw [Int.tmod_eq_emod_of_nonneg (by omega)]; exact hvi
          have hv2 : v < 2:=by omega
          have HX:=Lib.hid hx
          have HV:=Lib.hid hv
          clear hD hd e hb hc htr hmn hx hv hp
          obtain rfl | rfl : v = 0 ∨ v = 1:=by omega
          all_goals
            go_enter Tryz.func214,Tryz.ntmps214
            go_wp2_with (fail)
            go_ret
            exact ⟨by simp,rfl⟩
      · rw [htr] at ct
        clear hD hd e hb hc htr hmn
        go_enter Tryz.func214,Tryz.ntmps214
        go_wp2_with (fail)
        go_ret
        exact ⟨by simp,rfl⟩
    · have e : sruB s (m : Int) = decide (53 ≤ c):=by
        unfold sruB
        rw [if_neg hb,e0,hc,if_neg h53]
      rw [e]
      clear hD hd e hb hc
      by_cases hc53 : c = 53
      · subst hc53
        have d2 : ((m : Int) + 1 == (s.nd : Int)) = false:=by
          have : ¬ (m : Int) + 1 = s.nd:=by omega
          simpa using this
        have d3 : (m + 1 == s.nd) = false:=by
          have : ¬ m + 1 = s.nd:=by omega
          simpa using this
        clear h53
        go_enter Tryz.func214,Tryz.ntmps214
        go_wp2_with (fail)
        go_ret
        exact ⟨by simp,rfl⟩
      · have d2 : ((c : Int) == 53) = false:=by simpa using (by omega : ¬ (c : Int) = 53)
        clear h53
        by_cases hc5 : 53 ≤ c
        · have d3 : decide (53 ≤ (c : Int)) = true:=decide_eq_true (by omega)
          have d4 : decide (53 ≤ c) = true:=decide_eq_true hc5
          rw [d4]
          go_enter Tryz.func214,Tryz.ntmps214
          go_wp2_with (fail)
          go_ret
          exact ⟨by simp,rfl⟩
        · have d3 : decide (53 ≤ (c : Int)) = false:=decide_eq_false (by omega)
          have d4 : decide (53 ≤ c) = false:=decide_eq_false hc5
          rw [d4]
          go_enter Tryz.func214,Tryz.ntmps214
          go_wp2_with (fail)
          go_ret
          exact ⟨by simp,rfl⟩
set_option maxRecDepth 1000000 in
theorem round_int (g : Nat) (s : Dec) (w : World) (hD : DecR w g s) (hs : DOk s) (hdp : -1000000 ≤ s.dp∧s.dp ≤ 1000000) :
    Calls Tryz.prog 247 #[.pointer (some ⟨g,0,none⟩)] w fun e w'=>e = .returned (.int .u64 ((riD s : Nat) : Int))∧w = w':=by
  have c0:=hD.ndc
  have c1:=hD.dpc
  obtain ⟨q1,q2⟩:=hdp
  by_cases h20 : 20 < s.dp
  · have e : riD s = 18446744073709551615:=by unfold riD; rw [if_pos h20]
    rw [e]
    have d0 : decide (20 < s.dp) = true:=decide_eq_true h20
    clear hD hs e
    go_enter Tryz.func247,Tryz.ntmps247
    go_wp2_with (fail)
    go_ret
    exact ⟨rfl,rfl⟩
  · obtain ⟨B,hB⟩ : ∃ B,sruB s s.dp = B:=⟨_,rfl⟩
    have R1:=sru_any g s s.dp w hD hs.most hs.dig (by omega) (by omega)
    obtain ⟨D,hDD⟩ : ∃ D,s.dp.toNat = D:=⟨_,rfl⟩
    have e : riD s = if B then (riN s.f s.nd D + 1) % 18446744073709551616 else riN s.f s.nd D:=by unfold riD; rw [if_neg h20,hB,hDD]
    rw [e]
    rw [hB] at R1
    have HR:=Lib.hid R1
    have HD:=Lib.hid hD
    have HS:=Lib.hid hs
    have hnd:=hs.most
    have d0 : decide (20 < s.dp) = false:=decide_eq_false h20
    have hD1 : ∀ j : Nat,j < D → (j : Int) < s.dp:=fun j h=>by omega
    have hD2 : ∀ j : Nat,¬ j < D → s.dp ≤ (j : Int):=fun j h=>by omega
    have hD20 : D ≤ 20:=by omega
    have H1:=Lib.hid hD1
    have H2:=Lib.hid hD2
    obtain ⟨z,hz⟩ : ∃ z,s.dp = z:=⟨_,rfl⟩
    rw [hz] at c1 d0 q1 q2 H1 H2 HR h20
    clear hD hs e hD1 hD2 hDD hB R1 hz
    go_enter Tryz.func247,Tryz.ntmps247
    go_wp2_with (fail)
    go_loopg [3,4] D (fun qq i n wr=>wr = w∧∃ (j y : Nat),D - j = qq∧j ≤ D∧j ≤ s.nd∧i = .int .i64 (j : Int)∧n = .int .u64 (y : Int)∧y < 18446744073709551616∧Hid (riN s.f s.nd j = y))
    case atStart=>exact ⟨rfl,0,0,rfl,Nat.zero_le _,Nat.zero_le _,rfl,rfl,by omega,Lib.hid rfl⟩
    case round =>
      obtain ⟨rfl,j,y,rfl,hj,hjn,rfl,rfl,hy,hri⟩:=hrel
      by_cases hjd : j < D∧j < s.nd
      · obtain ⟨hjd,hjn2⟩:=hjd
        have d1:=H1.out j hjd
        have d2 : decide (j < s.nd) = true:=decide_eq_true hjn2
        have cb:=HD.out.byte j (by omega)
        have hb:=HS.out.dig j (Nat.zero_le _) hjn2
        have hgd:=dgt_in (f:=s.f) hjn2
        obtain ⟨c,hc⟩ : ∃ c,s.f j = c:=⟨_,rfl⟩
        rw [hc] at cb hb hgd
        obtain ⟨t,rfl⟩ : ∃ t,c = t + 48:=⟨c - 48,by omega⟩
        rw [Nat.add_sub_cancel] at hgd
        obtain ⟨a,ha⟩ : ∃ a,y * 10 % 18446744073709551616 = a:=⟨_,rfl⟩
        obtain ⟨r,hr⟩ : ∃ r,(y * 10 + t) % 18446744073709551616 = r:=⟨_,rfl⟩
        have wa : IntKind.u64.wrap ((y : Int) * 10) = (a : Int):=by rw [u64m]; omega
        have wr2 : IntKind.u64.wrap ((a : Int) + (t : Int)) = (r : Int):=by rw [u64m]; omega
        have hal : a < 18446744073709551616:=by omega
        have hrl : r < 18446744073709551616:=by omega
        have HRI:=Lib.hid (show riN s.f s.nd (j + 1) = r by rw [riN,hri.out,hgd,hr])
        clear hc hgd ha hr
        go_wp2_with (fail)
        go_roundg (D - (j + 1))
        case measure=>omega
        case rel=>exact ⟨rfl,j + 1,r,rfl,by omega,by omega,by go_num,rfl,hrl,HRI⟩
      · have d2 : j < s.nd → (s.nd ≤ j) ∨ z ≤ (j : Int):=fun _=>.inr (H2.out j (by omega))
        have hcs : z ≤ (j : Int) ∨ (j < D∧s.nd ≤ j):=by
          by_cases h : j < D
          · exact .inr ⟨h,by omega⟩
          · exact .inl (H2.out j h)
        clear d2
        have hcs2 : z ≤ (j : Int) ∨ ((j : Int) < z∧s.nd ≤ j):=hcs.elim .inl fun h=>.inr ⟨H1.out j h.1,h.2⟩
        clear hjd hcs
        have HJ : Hid (j < D → s.nd ≤ j):=Lib.hid (by
          intro h
          rcases hcs2 with h7 | h7
          · have:=H1.out j h; omega
          · exact h7.2)
        rcases hcs2 with h5 | ⟨h5,h6⟩
        all_goals
          go_wp2_with (fail)
          go_loopg [3,4] (D - j) (fun qq i n wx=>wx = wr∧∃ (j y : Nat),D - j = qq∧j ≤ D∧Hid (j < D → s.nd ≤ j)∧i = .int .i64 (j : Int)∧n = .int .u64 (y : Int)∧y < 18446744073709551616∧Hid (riN s.f s.nd j = y))
          case atStart=>exact ⟨rfl,j,y,rfl,hj,HJ,rfl,rfl,hy,hri⟩
          case round =>
            obtain ⟨rfl,j2,y2,rfl,hj2,HJ2,rfl,rfl,hy2,hri2⟩:=hrel
            clear hri HJ hy hj hjn
            try clear h5
            try clear h6
            by_cases hjd2 : j2 < D
            · have d1:=H1.out j2 hjd2
              have hgd:=dgt_out (f:=s.f) (HJ2.out hjd2)
              obtain ⟨a,ha⟩ : ∃ a,y2 * 10 % 18446744073709551616 = a:=⟨_,rfl⟩
              have wa : IntKind.u64.wrap ((y2 : Int) * 10) = (a : Int):=by rw [u64m]; omega
              have hal : a < 18446744073709551616:=by omega
              have HRI:=Lib.hid (show riN s.f s.nd (j2 + 1) = a by rw [riN,hri2.out,hgd,Nat.add_zero,ha])
              have HJ3 : Hid (j2 + 1 < D → s.nd ≤ j2 + 1):=Lib.hid fun h=>by have:=HJ2.out hjd2; omega
              clear hgd ha
              go_wp2_with (fail)
              go_roundg (D - (j2 + 1))
              case measure=>omega
              case rel=>exact ⟨rfl,j2 + 1,a,rfl,by omega,HJ3,by go_num,rfl,hal,HRI⟩
            · have d1:=H2.out j2 hjd2
              obtain rfl : j2 = D:=by omega
              clear hjd2
              go_wp2_with (fail)
              refine HR.out.mono ?_
              rintro e w' ⟨rfl,rfl⟩
              cases B
              · go_wp2_with (fail)
                go_ret
                exact ⟨by rw [hri2.out]; rfl,rfl⟩
              · obtain ⟨a,ha⟩ : ∃ a,(y2 + 1) % 18446744073709551616 = a:=⟨_,rfl⟩
                have wa : IntKind.u64.wrap ((y2 : Int) + 1) = (a : Int):=by rw [u64m]; omega
                have HA:=Lib.hid (show ((y2 : Int) + 1) % 18446744073709551616 = (a : Int) by omega)
                clear ha
                go_wp2_with (fail)
                go_ret
                exact ⟨by rw [hri2.out,HA.out]; rfl,rfl⟩
end LM
namespace LM
def zeroDec : Dec:=⟨fun _=>0,0,0,false,false⟩
def negOf (B : Nat → Nat) (a : Nat) : Bool:=decide (a = 1∧B 0 = 45)
theorem NumQ.neg_sign {B : Nat → Nat} {z a m b : Nat} (h : NumQ B z a m b) : (a = 0∧negOf B a = false∧B 0 ≠ 43∧B 0 ≠ 45) ∨ (a = 1∧B 0 = 43∧negOf B a = false) ∨ (a = 1∧B 0 = 45∧negOf B a = true):=by
  have h1:=h.a1
  unfold negOf
  by_cases h0 : a = 0
  · have:=h.sig0 h0
    unfold dgc at this
    refine .inl ⟨h0,by simp [h0],by omega,by omega⟩
  · have ha : a = 1:=by omega
    rcases h.sig ha with e | e
    · exact .inr (.inl ⟨ha,e,by simp [e]⟩)
    · exact .inr (.inr ⟨ha,e,by simp [e,ha]⟩)
theorem low_any (c : Nat) (hc : dgc c ∨ c = 46 ∨ c = 101 ∨ c = 69) (w : World) : Calls Tryz.prog 200 #[.int .u8 (c : Int)] w fun e w'=>e = .returned (.int .u8 ((if c = 69 then 101 else c : Nat) : Int))∧w = w':=by
  obtain ⟨y,hy⟩ : ∃ y,(if c = 69 then 101 else c : Nat) = y:=⟨_,rfl⟩
  rw [hy]
  have hb : bits .or .u8 (c : Int) 32 = (y : Int):=by
    rw [← hy]
    unfold dgc at hc
    obtain rfl | rfl | rfl | rfl | rfl | rfl | rfl | rfl | rfl | rfl | rfl | rfl | rfl : c = 48 ∨ c = 49 ∨ c = 50 ∨ c = 51 ∨ c = 52 ∨ c = 53 ∨ c = 54 ∨ c = 55 ∨ c = 56 ∨ c = 57 ∨ c = 46 ∨ c = 101 ∨ c = 69:=by omega
    all_goals decide
  clear hy hc
  go_enter Tryz.func200,Tryz.ntmps200
  go_wp2
  go_ret
  exact ⟨rfl,rfl⟩
set_option maxRecDepth 1000000 in
theorem set_any (g : Nat) (s : ByteArray) (a m b : Nat) (w : World) (hD : DecR w g zeroDec) (hz : s.size ≤ 800) (hN : NumQ (byF s) s.size a m b) :
    Calls Tryz.prog 238 #[.pointer (some ⟨g,0,none⟩),.string s] w fun e w'=>e = .returned (.bool true)∧DW w g (setD (byF s) (negOf (byF s) a) s.size a m b) w':=by
  have hby:=byF_at s
  obtain ⟨B,hB⟩ : ∃ B,byF s = B:=⟨_,rfl⟩
  rw [hB] at hN hby ⊢
  obtain ⟨R,hR⟩ : ∃ R,setD B (negOf B a) s.size a m b = R:=⟨_,rfl⟩
  rw [hR]
  obtain ⟨ng,hng⟩ : ∃ n,negOf B a = n:=⟨_,rfl⟩
  rw [hng] at hR
  have ham:=hN.am
  have hmz:=hN.mz
  have ha1:=hN.a1
  have h1z : 0 < s.size:=by omega
  have HN:=Lib.hid hN
  have HBY:=Lib.hid hby
  have HR:=Lib.hid hR
  have HSG:=Lib.hid hN.neg_sign
  have HNG:=Lib.hid hng
  have y3:=hD.frozen 802
  have y4:=hD.frozen 803
  have x3:=hD.negc
  have x4:=hD.trc
  have HD2:=Lib.hid ((hD.setNeg false).setTr false)
  have HG2:=Lib.hid (below_nd (below_nd (only_refl w (some g)) 802 (.bool false)) 803 (.bool false))
  have hb0:=hby 0 h1z
  have hne : ¬ s = ByteArray.empty:=fun e=>by rw [e] at h1z; exact absurd h1z (by decide)
  clear hN hby hR hB hng hD
  go_enter Tryz.func238,Tryz.ntmps238
  go_upto_block 0 with (fail)
  go_cut [5] (fun i wx=>i = .int .i64 (a : Int)∧Hid (DecR wx g (stN B ng a 0).d)∧Hid (w.grownBy wx (some g)))
  case first =>
    have hsg:=HSG.out
    rw [HNG.out] at hsg
    rcases hsg with ⟨rfl,rfl,h43,h45⟩ | ⟨rfl,h43,rfl⟩ | ⟨rfl,h45,rfl⟩
    · have d1 : ((B 0 : Int) == 43) = false:=by simpa using (by omega : ¬ (B 0 : Int) = 43)
      have d2 : ((B 0 : Int) == 45) = false:=by simpa using (by omega : ¬ (B 0 : Int) = 45)
      go_wp2_with (fail)
      go_meet
      case rel=>exact ⟨rfl,HD2,HG2⟩
    · have d1 : ((B 0 : Int) == 43) = true:=by rw [h43]; rfl
      clear h43
      go_wp2_with (fail)
      go_meet
      case rel=>exact ⟨rfl,HD2,HG2⟩
    · have d1 : ((B 0 : Int) == 43) = false:=by rw [h45]; rfl
      have d2 : ((B 0 : Int) == 45) = true:=by rw [h45]; rfl
      clear h45
      have z3:=HD2.out.frozen 802
      go_wp2_with (fail)
      go_meet
      case rel=>exact ⟨rfl,Lib.hid (HD2.out.setNeg true),Lib.hid (below_nd HG2.out _ _)⟩
  case rest=>as_aux_lemma =>
    obtain ⟨rfl,hd0,hg0⟩:=hcut
    clear x3 x4 y3 y4 HD2 HG2 hb0
    go_upto_block 1 with (fail)
    go_cut [5,6,7] (fun i sd sg wx=>i = .int .i64 (m : Int)∧sd = .bool (rfN B a (m - a)).dot∧sg = .bool true∧Hid (DecR wx g (stN B ng a (m - a)).d)∧Hid (w.grownBy wx (some g)))
    case first=>as_aux_lemma =>
      go_wp2_with (fail)
      go_loopg [5,6,7] (m - a) (fun qq i sd sg wr=>∃ (j x : Nat) (d1 d2 : Bool),m - a - j = qq∧j ≤ m - a∧Hid (x = a + j)∧a ≤ x∧x ≤ m∧i = .int .i64 (x : Int)∧sd = .bool d1∧sg = .bool d2∧Hid ((rfN B a j).dot = d1)∧Hid ((rfN B a j).dig = d2)∧Hid (DecR wr g (stN B ng a j).d)∧Hid (w.grownBy wr (some g)))
      case atStart=>exact ⟨0,a,false,false,rfl,Nat.zero_le _,Lib.hid rfl,Nat.le_refl _,Nat.le_of_lt ham,rfl,rfl,rfl,Lib.hid rfl,Lib.hid rfl,hd0,hg0⟩
      case round =>
        obtain ⟨j,x,d1,d2,rfl,hj,hx,hax,hxm,rfl,rfl,rfl,he1,he2,hd,hg⟩:=hrel
        clear hd0 hg0
        have ok:=stN_ok HN.out ng j (by have:=hx.out; omega)
        have ok2:=rfN_ok HN.out j (by have:=hx.out; omega)
        by_cases hlt : x < m
        · have hxz : x < s.size:=by omega
          have hb:=HBY.out x hxz
          have hcl:=HN.out.man x hax hlt
          have HST : Hid (stN B ng a (j + 1) = stStep (stN B ng a j) (B x)):=Lib.hid (by rw [stN,← hx.out])
          have HRF : Hid (rfN B a (j + 1) = rfStep (rfN B a j) (B x)):=Lib.hid (by rw [rfN,← hx.out])
          obtain ⟨c,hc⟩ : ∃ c,B x = c:=⟨_,rfl⟩
          rw [hc] at hb hcl HST HRF
          obtain ⟨S,hS⟩ : ∃ S,stN B ng a j = S:=⟨_,rfl⟩
          rw [hS] at hd ok HST
          have hnl:=ok.le
          have hdl:=ok2.lo
          have hdh:=ok2.hi
          rw [← ok.dp] at hdl hdh
          have c0:=hd.out.ndc
          have c1:=hd.out.dpc
          have z0:=hd.out.frozen 800
          have z1:=hd.out.frozen 801
          have d95 : ((c : Int) == 95) = false:=by unfold dgc at hcl; simpa using (by omega : ¬ (c : Int) = 95)
          have hjb : j ≤ 800:=by omega
          have hjm : j < m - a:=by have:=hx.out; omega
          have HX1:=Lib.hid (show x + 1 = a + (j + 1) by have:=hx.out; omega)
          have HC:=Lib.hid hc
          have HOK:=Lib.hid ok
          clear hc hS ok ok2
          by_cases h46 : c = 46
          · have hdot:=HN.out.nodot j (by have:=hx.out; omega) (by rw [← hx.out,HC.out]; exact h46)
            rw [he1.out] at hdot
            subst hdot
            subst h46
            have HST2:=Lib.hid (show stStep S 46 = { S with dot:=true,d:={ S.d with dp:=S.d.nd } } from rfl)
            have HDN:=Lib.hid (hd.out.setDp (S.d.nd : Int))
            clear hcl
            go_wp2_with (fail)
            go_roundg (m - a - (j + 1))
            case measure=>omega
            case rel=>exact ⟨j + 1,x + 1,true,d2,rfl,by omega,HX1,by omega,by omega,by go_num,rfl,rfl,Lib.hid (by rw [HRF.out]; rfl),Lib.hid (by rw [HRF.out]; exact he2.out),Lib.hid (by rw [HST.out]; exact HDN.out),Lib.hid (below_nd hg.out _ _)⟩
          · have hdg : 48 ≤ c∧c ≤ 57:=hcl.elim id fun h=>absurd h h46
            obtain ⟨h48,h57⟩:=hdg
            have d46 : ((c : Int) == 46) = false:=by simpa using (by omega : ¬ (c : Int) = 46)
            clear hcl
            by_cases hz0 : c = 48∧S.d.nd = 0
            · obtain ⟨rfl,hn0⟩:=hz0
              rw [hn0] at c0
              have HST2:=Lib.hid (show stStep S 48 = { S with dig:=true,d:={ S.d with dp:=S.d.dp - 1 } } by unfold stStep; rw [if_neg (by decide),if_pos ⟨rfl,hn0⟩])
              have HRF2 : Hid ((rfStep (rfN B a j) 48).dot = (rfN B a j).dot∧(rfStep (rfN B a j) 48).dig = true):=Lib.hid (by
                have:=HOK.out.nd
                unfold rfStep
                rw [if_neg (by decide),if_pos ⟨rfl,by omega⟩]
                exact ⟨rfl,rfl⟩)
              obtain ⟨dp1,hdp1⟩ : ∃ z,S.d.dp - 1 = z:=⟨_,rfl⟩
              have e1 : IntKind.i64.wrap (S.d.dp - 1) = dp1:=by rw [IntKind.wrap_i64]; omega
              rw [hdp1] at HST2
              have HDN:=Lib.hid (hd.out.setDp dp1)
              clear hdp1 hn0
              go_wp2_with (fail)
              go_roundg (m - a - (j + 1))
              case measure=>omega
              case rel=>exact ⟨j + 1,x + 1,d1,true,rfl,by omega,HX1,by omega,by omega,by go_num,rfl,rfl,Lib.hid (by rw [HRF.out,HRF2.out.1]; exact he1.out),Lib.hid (by rw [HRF.out]; exact HRF2.out.2),Lib.hid (by rw [HST.out,HST2.out]; exact HDN.out),Lib.hid (below_nd hg.out _ _)⟩
            · have HST2:=Lib.hid (show stStep S c = { S with dig:=true,d:={ S.d with f:=upd S.d.f S.d.nd c,nd:=S.d.nd + 1 } } by unfold stStep; rw [if_neg h46,if_neg hz0])
              have HRF2 : Hid ((rfStep (rfN B a j) c).dot = (rfN B a j).dot∧(rfStep (rfN B a j) c).dig = true):=Lib.hid (by
                have h5:=HOK.out.nd
                unfold rfStep
                rw [if_neg h46,if_neg (by rw [← h5]; exact hz0)]
                split <;> exact ⟨rfl,rfl⟩)
              obtain ⟨N,hN⟩ : ∃ N,S.d.nd = N:=⟨_,rfl⟩
              have hN8 : N < 800:=by omega
              have HN8:=Lib.hid hN
              have hd3:=hd.out.drew.setByte N hN8 c
              have HDN:=Lib.hid (hd3.setNd (N + 1))
              have cN:=hd.out.byte N hN8
              have zN:=hd.out.frozen N
              have t0:=hd3.ndc
              rw [hN] at hz0 c0 HST2 hnl
              clear hd3 hN t0
              have hcase : (c = 48∧1 ≤ N) ∨ c ≠ 48:=by omega
              clear hz0
              rcases hcase with ⟨rfl,hN1⟩ | hc48
              · have dn : ((N : Int) == 0) = false:=by simpa using (by omega : ¬ (N : Int) = 0)
                go_wp2_with (fail)
                go_still_tail 11,(by kernel_rfl)
                go_wp2_with (fail)
                go_roundg (m - a - (j + 1))
                case measure=>omega
                case rel=>exact ⟨j + 1,x + 1,d1,true,rfl,by omega,HX1,by omega,by omega,by go_num,rfl,rfl,Lib.hid (by rw [HRF.out,HRF2.out.1]; exact he1.out),Lib.hid (by rw [HRF.out]; exact HRF2.out.2),Lib.hid (by rw [HST.out,HST2.out]; exact HDN.out),Lib.hid (below_nd (below_nd (only_drew hg.out) _ _) _ _)⟩
              · have d48 : ((c : Int) == 48) = false:=by simpa using (by omega : ¬ (c : Int) = 48)
                go_wp2_with (fail)
                go_still_tail 11,(by kernel_rfl)
                go_wp2_with (fail)
                go_roundg (m - a - (j + 1))
                case measure=>omega
                case rel=>exact ⟨j + 1,x + 1,d1,true,rfl,by omega,HX1,by omega,by omega,by go_num,rfl,rfl,Lib.hid (by rw [HRF.out,HRF2.out.1]; exact he1.out),Lib.hid (by rw [HRF.out]; exact HRF2.out.2),Lib.hid (by rw [HST.out,HST2.out]; exact HDN.out),Lib.hid (below_nd (below_nd (only_drew hg.out) _ _) _ _)⟩
        · have hjm : j = m - a:=by have:=hx.out; omega
          have hxe : x = m:=by omega
          subst hxe
          rw [hjm] at he1 he2 hd
          have h2:=he2.out
          rw [HN.out.some] at h2
          subst h2
          have h1:=he1.out
          subst h1
          by_cases hmz2 : x = s.size
          · subst hmz2
            clear hlt ok ok2 hjm hx
            go_wp2_with (fail)
            go_meet
            case rel=>exact ⟨rfl,rfl,rfl,hd,hg⟩
          · have hxz : x < s.size:=by omega
            have hex:=HN.out.ex.resolve_left hmz2
            have hb:=HBY.out x hxz
            obtain ⟨c,hc⟩ : ∃ c,B x = c:=⟨_,rfl⟩
            rw [hc] at hb
            have hce : c = 101 ∨ c = 69:=by rw [← hc]; exact hex.1
            clear hlt ok ok2 hjm hx hex hmz2 hc
            rcases hce with rfl | rfl
            all_goals
              go_wp2_with (fail)
              go_meet
              case rel=>exact ⟨rfl,rfl,rfl,hd,hg⟩
    case rest=>as_aux_lemma =>
      obtain ⟨rfl,rfl,rfl,hd1,hg1⟩:=hcut
      clear hd0 hg0
      have ok:=stN_ok HN.out ng (m - a) (by omega)
      have ok2:=rfN_ok HN.out (m - a) (by omega)
      have hRd : ({ (stN B ng a (m - a)).d with dp:=rfDp B s.size a m b } : Dec) = R:=by rw [← HR.out]; rfl
      obtain ⟨S,hS⟩ : ∃ S,(stN B ng a (m - a)).d = S:=⟨_,rfl⟩
      have hnd:=ok.nd
      have hdp:=ok.dp
      have hl1:=ok2.lo
      have hl2:=ok2.hi
      have hl3:=ok2.nd
      have hrd : rfDp B s.size a m b = (if (rfN B a (m - a)).dot then (rfN B a (m - a)).dp else ((rfN B a (m - a)).nd : Int)) + exZ B s.size m b:=rfl
      obtain ⟨r,hr⟩ : ∃ r,rfN B a (m - a) = r:=⟨_,rfl⟩
      rw [hS] at hRd hd1 hnd hdp
      rw [hr] at hnd hdp hl1 hl2 hl3 hrd
      obtain ⟨dot,hdot⟩ : ∃ x,r.dot = x:=⟨_,rfl⟩
      obtain ⟨D1,hD1⟩ : ∃ z,(if r.dot then r.dp else (r.nd : Int)) = z:=⟨_,rfl⟩
      have hDb : -800 ≤ D1∧D1 ≤ 800:=by
        rw [← hD1]
        split <;> omega
      rw [hD1] at hrd
      have HRD:=Lib.hid hRd
      have HRP:=Lib.hid hrd
      have HD1:=Lib.hid (show (dot = true → S.dp = D1)∧(dot = false → (S.nd : Int) = D1) from ⟨fun h=>by rw [hdp,← hD1,hdot,if_pos h],fun h=>by rw [hnd,← hD1,hdot,h]; rfl⟩)
      have hnb : S.nd ≤ 800:=by omega
      have c0:=hd1.out.ndc
      have c1:=hd1.out.dpc
      have z1:=hd1.out.frozen 801
      rw [hr,hdot]
      obtain ⟨hDa,hDb⟩:=hDb
      clear ok ok2 hRd hS hnd hdp hl1 hl2 hl3 hrd hr hdot hD1
      go_upto_if 120 with (fail)
      go_cut [] (fun wx=>Hid (DecR wx g { S with dp:=D1 })∧Hid (w.grownBy wx (some g)))
      case first =>
        cases dot
        · have hdd:=HD1.out.2 rfl
          rw [hdd] at c0
          have HDN:=Lib.hid (hd1.out.setDp D1)
          clear hdd
          go_wp2_with (fail)
          go_meet
          case rel=>exact ⟨HDN,Lib.hid (below_nd hg1.out _ _)⟩
        · have HDN:=Lib.hid (hd1.out.eq (show S = { S with dp:=D1 } by rw [← HD1.out.1 rfl]))
          go_wp2_with (fail)
          go_meet
          case rel=>exact ⟨HDN,hg1⟩
      case rest=>as_aux_lemma =>
        obtain ⟨hd2,hg2⟩:=hcut
        clear c0 c1 z1 hd1 hg1 HD1
        have c1:=hd2.out.dpc
        have z1:=hd2.out.frozen 801
        dsimp only at c1
        by_cases hmz2 : m = s.size
        · have hxe : exZ B s.size m b = 0:=by unfold exZ; rw [if_pos hmz2]
          have hq : rfDp B s.size a m b = D1:=by rw [HRP.out,hxe]; omega
          have HEQ:=Lib.hid (show ({ S with dp:=D1 } : Dec) = R by rw [← HRD.out,hq])
          subst hmz2
          clear hxe hq
          go_wp2_with (fail)
          go_ret
          exact ⟨rfl,hd2.out.eq HEQ.out,hg2.out⟩
        · have hxz : m < s.size:=by omega
          obtain ⟨hce,hsg,hbz,hzb,hdgs⟩:=HN.out.ex.resolve_left hmz2
          have hb:=HBY.out m hxz
          have hexz:=HN.out.exz
          have HXZ : Hid (exZ B s.size m b = if B (m + 1) = 45 then -((exN B b (s.size - b) : Nat) : Int) else ((exN B b (s.size - b) : Nat) : Int)):=Lib.hid (by unfold exZ; rw [if_neg hmz2])
          have HEX:=Lib.hid (HN.out.exs hmz2)
          have hm1z : m + 1 < s.size:=by omega
          have hb1:=HBY.out (m + 1) hm1z
          obtain ⟨c,hc⟩ : ∃ c,B m = c:=⟨_,rfl⟩
          rw [hc] at hb hce
          have L1:=Lib.hid (low_any c (by unfold dgc; omega))
          have hlc : (if c = 69 then 101 else c : Nat) = 101:=by rcases hce with rfl | rfl <;> rfl
          rw [hlc] at L1
          have HDG:=Lib.hid hdgs
          have HSG2:=Lib.hid hsg
          have f1 : decide (m < s.size) = true:=decide_eq_true hxz
          have f2 : decide (s.size ≤ m + 1) = false:=decide_eq_false (by omega)
          have f3 : decide (s.size ≤ b) = false:=decide_eq_false (by omega)
          clear hc hlc hdgs hsg hmz2
          go_wp2_with (fail)
          refine (L1.out _).mono ?_
          rintro e w' ⟨rfl,rfl⟩
          go_upto_block 4 with (fail)
          go_cut [5,8] (fun i sg wx=>i = .int .i64 (b : Int)∧sg = .int .i64 (if B (m + 1) = 45 then -1 else 1)∧wx = wc)
          case first =>
            have hsg:=HSG2.out
            unfold dgc at hsg
            rcases hsg with ⟨rfl,h5⟩ | ⟨rfl,h5 | h5⟩
            · have d1 : ((B (m + 1) : Int) == 43) = false:=by simpa using (by omega : ¬ (B (m + 1) : Int) = 43)
              have d2 : ((B (m + 1) : Int) == 45) = false:=by simpa using (by omega : ¬ (B (m + 1) : Int) = 45)
              have HE:=Lib.hid (show (if B (m + 1) = 45 then -1 else 1 : Int) = 1 from if_neg (by omega))
              clear h5
              go_wp2_with (fail)
              go_meet
              case rel=>exact ⟨by go_num,by rw [HE.out],rfl⟩
            · have d1 : ((B (m + 1) : Int) == 43) = true:=by rw [h5]; rfl
              have HE:=Lib.hid (show (if B (m + 1) = 45 then -1 else 1 : Int) = 1 from if_neg (by omega))
              clear h5
              go_wp2_with (fail)
              go_meet
              case rel=>exact ⟨congrArg (Value.int .i64) (by omega),by rw [HE.out],rfl⟩
            · have d1 : ((B (m + 1) : Int) == 43) = false:=by rw [h5]; rfl
              have d2 : ((B (m + 1) : Int) == 45) = true:=by rw [h5]; rfl
              have HE:=Lib.hid (show (if B (m + 1) = 45 then -1 else 1 : Int) = -1 from if_pos h5)
              clear h5
              go_wp2_with (fail)
              go_meet
              case rel=>exact ⟨congrArg (Value.int .i64) (by omega),by rw [HE.out],rfl⟩
          case rest=>as_aux_lemma =>
            obtain ⟨rfl,rfl,rfl⟩:=hcut
            have hbb:=HBY.out b hbz
            have hdb:=HDG.out b (Nat.le_refl _) hbz
            obtain ⟨E,hE⟩ : ∃ E,(if B (m + 1) = 45 then -1 else 1 : Int) = E:=⟨_,rfl⟩
            have hE1 : E = 1 ∨ E = -1:=by rw [← hE]; split <;> simp
            have HXZ2 : Hid (exZ B s.size m b = ((exN B b (s.size - b) : Nat) : Int) * E):=Lib.hid (by
              rw [HXZ.out,← hE]
              split <;> omega)
            rw [hE]
            obtain ⟨c2,hc2⟩ : ∃ c,B b = c:=⟨_,rfl⟩
            rw [hc2] at hbb hdb
            obtain ⟨h6,h7⟩:=hdb
            have f4 : decide (c2 < 48) = false:=decide_eq_false (by omega)
            have f5 : decide (57 < c2) = false:=decide_eq_false (by omega)
            clear hE hc2 hb1 hb L1 HXZ HSG2 hce
            go_wp2_with (fail)
            go_loopg [5,9] (s.size - b) (fun qq i e wr=>wr = wc∧∃ (j x y : Nat),s.size - b - j = qq∧j ≤ s.size - b∧Hid (x = b + j)∧b ≤ x∧x ≤ s.size∧i = .int .i64 (x : Int)∧e = .int .i64 (y : Int)∧y ≤ 9999∧Hid (exN B b j = y))
            case atStart=>exact ⟨rfl,0,b,0,rfl,Nat.zero_le _,Lib.hid rfl,Nat.le_refl _,Nat.le_of_lt hbz,rfl,rfl,by omega,Lib.hid rfl⟩
            case round =>
              obtain ⟨rfl,j,x,y,rfl,hj,hx,hbx,hxz2,rfl,rfl,hy,hey⟩:=hrel
              clear hbb h6 h7
              by_cases hlt : x < s.size
              · have hbb:=HBY.out x hlt
                have hdb:=HDG.out x hbx hlt
                have hjz : j < s.size - b:=by have:=hx.out; omega
                have hex2:=HEX.out j (by omega)
                have hnx : exN B b (j + 1) = y * 10 + (B x - 48):=by rw [exN,hey.out,← hx.out]
                rw [hey.out] at hex2
                obtain ⟨h9,h99⟩:=hex2
                obtain ⟨c3,hc3⟩ : ∃ c,B x = c:=⟨_,rfl⟩
                rw [hc3] at hbb hdb hnx
                rw [hnx] at h99
                obtain ⟨h6,h7⟩:=hdb
                have HNX:=Lib.hid hnx
                have HX1:=Lib.hid (show x + 1 = b + (j + 1) by have:=hx.out; omega)
                have d95 : ((c3 : Int) == 95) = false:=by simpa using (by omega : ¬ (c3 : Int) = 95)
                have dy : decide (y < 10000) = true:=decide_eq_true (by omega)
                clear hc3 hnx
                go_wp2_with (fail)
                go_roundg (s.size - b - (j + 1))
                case measure=>omega
                case rel=>exact ⟨rfl,j + 1,x + 1,y * 10 + (c3 - 48),rfl,by omega,HX1,by omega,by omega,by go_num,congrArg (Value.int .i64) (by omega),h99,HNX⟩
              · have hxe : x = s.size:=by omega
                have hje : j = s.size - b:=by have:=hx.out; omega
                rw [hje] at hey
                subst hxe
                have hexz2:=hexz
                have HXZ3 : Hid (exZ B s.size m b = (y : Int) * E):=Lib.hid (by rw [HXZ2.out,hey.out])
                have hyE : (y : Int) * E = y ∨ (y : Int) * E = -(y : Int):=by rcases hE1 with rfl | rfl <;> omega
                obtain ⟨Y,hY⟩ : ∃ Y,(y : Int) * E = Y:=⟨_,rfl⟩
                rw [hY] at hyE HXZ3
                have eY : IntKind.i64.wrap ((y : Int) * E) = Y:=by rw [hY,IntKind.wrap_i64]; omega
                obtain ⟨D2,hD2⟩ : ∃ z,D1 + Y = z:=⟨_,rfl⟩
                have eD : IntKind.i64.wrap (D1 + Y) = D2:=by rw [hD2,IntKind.wrap_i64]; omega
                have HEQ:=Lib.hid (show ({ S with dp:=D2 } : Dec) = R by rw [← HRD.out,HRP.out,HXZ3.out,hD2])
                have HDN:=Lib.hid (hd2.out.setDp D2)
                have HGN:=Lib.hid (below_nd hg2.out 801 (.int .i64 D2))
                clear hY hyE hD2 hexz2 hexz hey hje hx hlt
                go_wp2_with (fail)
                go_ret
                exact ⟨rfl,HDN.out.eq HEQ.out,HGN.out⟩
end LM
end Go.Proofs.YtihbgghlnppkiaaGreatDoor
