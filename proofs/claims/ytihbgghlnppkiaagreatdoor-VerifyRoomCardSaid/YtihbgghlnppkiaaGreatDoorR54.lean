import Derived.Test.YtihbgghlnppkiaaGreatDoorR51
set_option linter.unusedVariables false
set_option linter.unusedSimpArgs false
set_option maxRecDepth 100000
set_option maxHeartbeats 16000000
namespace Go.Proofs.YtihbgghlnppkiaaGreatDoor
open Go Go.RowKit
namespace LM
def rfMant (B : Nat → Nat) (a m : Nat) : Nat:=(rfN B a (m - a)).mant
def rfTr (B : Nat → Nat) (a m : Nat) : Bool:=(rfN B a (m - a)).tr
theorem mant_bd {s : RF} {j : Nat} (h : RfOk s j) : s.mant ≤ 9999999999999999999∧(s.ndm < 19 → s.mant ≤ 999999999999999999):=by
  have h1:=h.mant
  have h2 : 10 ^ s.ndm ≤ 10 ^ 19:=Nat.pow_le_pow_right (by decide) h.ndm
  refine ⟨by omega,fun h3=>?_⟩
  have h4 : 10 ^ s.ndm ≤ 10 ^ 18:=Nat.pow_le_pow_right (by decide) (by omega)
  omega
def RfS (r : RF) (m tr sd sg nd nm dp : Value) : Prop:=m = .int .u64 ((r.mant : Nat) : Int)∧tr = .bool r.tr∧sd = .bool r.dot∧sg = .bool r.dig∧nd = .int .i64 ((r.nd : Nat) : Int)∧nm = .int .i64 ((r.ndm : Nat) : Int)∧dp = .int .i64 r.dp
set_option maxRecDepth 1000000 in
theorem readf_any (s : ByteArray) (a m b : Nat) (w : World) (hz : s.size ≤ 800) (hN : NumQ (byF s) s.size a m b) :
    Calls Tryz.prog 232 #[.string s] w fun e w'=>e = .returned (.tuple #[.int .u64 ((rfMant (byF s) a m : Nat) : Int),.int .i64 (rfEx (byF s) s.size a m b),.bool (negOf (byF s) a),.bool (rfTr (byF s) a m),.bool false,.int .i64 (s.size : Int),.bool true])∧w = w':=by
  have hby:=byF_at s
  obtain ⟨B,hB⟩ : ∃ B,byF s = B:=⟨_,rfl⟩
  rw [hB] at hN hby ⊢
  obtain ⟨ng,hng⟩ : ∃ n,negOf B a = n:=⟨_,rfl⟩
  rw [hng]
  have ham:=hN.am
  have hmz:=hN.mz
  have ha1:=hN.a1
  have h1z : 0 < s.size:=by omega
  have HN:=Lib.hid hN
  have HBY:=Lib.hid hby
  have HSG:=Lib.hid hN.neg_sign
  have HNG:=Lib.hid hng
  have hb0:=hby 0 h1z
  have hne : ¬ s = ByteArray.empty:=fun e=>by rw [e] at h1z; exact absurd h1z (by decide)
  clear hN hby hB hng
  go_enter Tryz.func232,Tryz.ntmps232
  go_wp2_with (fail)
  go_step3
  go_upto_block 0 with (fail)
  go_cut [4,7] (fun n i wx=>n = .bool ng∧i = .int .i64 (a : Int)∧wx = w)
  case first =>
    have hsg:=HSG.out
    rw [HNG.out] at hsg
    rcases hsg with ⟨rfl,rfl,h43,h45⟩ | ⟨rfl,h43,rfl⟩ | ⟨rfl,h45,rfl⟩
    · have d1 : ((B 0 : Int) == 43) = false:=by simpa using (by omega : ¬ (B 0 : Int) = 43)
      have d2 : ((B 0 : Int) == 45) = false:=by simpa using (by omega : ¬ (B 0 : Int) = 45)
      go_wp2_with (fail)
      go_meet
      case rel=>exact ⟨rfl,rfl,rfl⟩
    · have d1 : ((B 0 : Int) == 43) = true:=by rw [h43]; rfl
      clear h43
      go_wp2_with (fail)
      go_meet
      case rel=>exact ⟨rfl,rfl,rfl⟩
    · have d1 : ((B 0 : Int) == 43) = false:=by rw [h45]; rfl
      have d2 : ((B 0 : Int) == 45) = true:=by rw [h45]; rfl
      clear h45
      go_wp2_with (fail)
      go_meet
      case rel=>exact ⟨rfl,rfl,rfl⟩
  case rest=>as_aux_lemma =>
    obtain ⟨rfl,rfl,rfl⟩:=hcut
    clear hb0
    go_upto_region 12 with (fail)
    go_cut [54] (fun h wx=>h = .bool false∧wx = wc)
    case first =>
      have haz : a < s.size:=by omega
      have hba:=HBY.out a haz
      have hman:=HN.out.man a (Nat.le_refl _) ham
      obtain ⟨c,hc⟩ : ∃ c,B a = c:=⟨_,rfl⟩
      rw [hc] at hba hman
      by_cases h2 : a + 2 < s.size
      · have ha1z : a + 1 < s.size:=by omega
        have hb1:=HBY.out (a + 1) ha1z
        obtain ⟨c1,hc1⟩ : ∃ c,B (a + 1) = c:=⟨_,rfl⟩
        have hcl : dgc c1 ∨ c1 = 46 ∨ c1 = 101 ∨ c1 = 69:=by
          rw [← hc1]
          by_cases h3 : a + 1 < m
          · have:=HN.out.man (a + 1) (by omega) h3
            exact this.elim .inl fun h=>.inr (.inl h)
          · have e : a + 1 = m:=by omega
            rcases HN.out.ex with h | ⟨h,_⟩
            · omega
            · rw [e]
              exact .inr (.inr h)
        rw [hc1] at hb1
        have L1:=Lib.hid (low_any c1 hcl)
        obtain ⟨y,hy⟩ : ∃ y,(if c1 = 69 then 101 else c1 : Nat) = y:=⟨_,rfl⟩
        rw [hy] at L1
        have hy120 : y ≠ 120:=by
          rw [← hy]
          unfold dgc at hcl
          split <;> omega
        have dy : ((y : Int) == 120) = false:=by simpa using (by omega : ¬ (y : Int) = 120)
        clear hc hc1 hcl hy hman hy120
        by_cases h48 : c = 48
        · subst h48
          go_wp2_with (refine (L1.out _).mono ?_; rintro e w' ⟨rfl,rfl⟩)
          go_meet
          case rel=>exact ⟨rfl,rfl⟩
        · have d48 : ((c : Int) == 48) = false:=by simpa using (by omega : ¬ (c : Int) = 48)
          go_wp2_with (fail)
          go_meet
          case rel=>exact ⟨rfl,rfl⟩
      · have d2 : decide ((a : Int) + 2 < (s.size : Int)) = false:=decide_eq_false (by omega)
        clear hc hman
        go_wp2_with (fail)
        go_meet
        case rel=>exact ⟨rfl,rfl⟩
    case rest=>as_aux_lemma =>
      obtain ⟨rfl,rfl⟩:=hcut
      go_wp2_with (fail)
      go_step3
      go_upto_block 1 with (fail)
      go_cut [2,5,7,9,13,14,15,16,17,18] (fun mm tr i us sd sg nd nm dp c wx=>RfS (rfN B a (m - a)) mm tr sd sg nd nm dp∧i = .int .i64 (m : Int)∧us = .bool false∧wx = wc)
      case first=>as_aux_lemma =>
        go_wp2_with (fail)
        go_loopg [2,5,7,9,13,14,15,16,17,18] (m - a) (fun qq mm tr i us sd sg nd nm dp c wr=>wr = wc∧us = .bool false∧∃ (j x : Nat) (r : RF),m - a - j = qq∧j ≤ m - a∧Hid (x = a + j)∧a ≤ x∧x ≤ m∧i = .int .i64 (x : Int)∧Hid (rfN B a j = r)∧RfS r mm tr sd sg nd nm dp)
        case atStart=>exact ⟨rfl,rfl,0,a,_,rfl,Nat.zero_le _,Lib.hid rfl,Nat.le_refl _,Nat.le_of_lt ham,rfl,Lib.hid rfl,rfl,rfl,rfl,rfl,rfl,rfl,rfl⟩
        case round =>
          obtain ⟨rfl,rfl,j,x,r,rfl,hj,hx,hax,hxm,rfl,hr,rfl,rfl,rfl,rfl,rfl,rfl,rfl⟩:=hrel
          have ok:=rfN_ok HN.out j (by have:=hx.out; omega)
          rw [hr.out] at ok
          obtain ⟨mb1,mb2⟩:=mant_bd ok
          by_cases hlt : x < m
          · have hxz : x < s.size:=by omega
            have hb:=HBY.out x hxz
            have hcl:=HN.out.man x hax hlt
            have HRF : Hid (rfN B a (j + 1) = rfStep r (B x)):=Lib.hid (by rw [rfN,hr.out,← hx.out])
            obtain ⟨c,hc⟩ : ∃ c,B x = c:=⟨_,rfl⟩
            rw [hc] at hb hcl HRF
            have hnl:=ok.nd
            have hdl:=ok.lo
            have hdh:=ok.hi
            have hnn:=ok.ndm
            have hnz:=ok.nz
            have d95 : ((c : Int) == 95) = false:=by unfold dgc at hcl; simpa using (by omega : ¬ (c : Int) = 95)
            have hjb : j ≤ 800:=by omega
            have hjm : j < m - a:=by have:=hx.out; omega
            have HX1:=Lib.hid (show x + 1 = a + (j + 1) by have:=hx.out; omega)
            have HC:=Lib.hid hc
            have HNZ:=Lib.hid hnz
            obtain ⟨mt,nd,ndm,dp,dot,dig,tr⟩:=r
            dsimp only at mb1 mb2 hnl hdl hdh hnn
            clear hc ok hnz
            by_cases h46 : c = 46
            · have hdot:=HN.out.nodot j (by have:=hx.out; omega) (by rw [← hx.out,HC.out]; exact h46)
              rw [hr.out] at hdot
              have hdot : dot = false:=hdot
              subst hdot
              subst h46
              clear hcl
              go_wp2_with (fail)
              go_roundg (m - a - (j + 1))
              case measure=>omega
              case rel=>exact ⟨rfl,rfl,j + 1,x + 1,_,rfl,by omega,HX1,by omega,by omega,by go_num,Lib.hid HRF.out,rfl,rfl,rfl,rfl,rfl,rfl,rfl⟩
            · have hdg : 48 ≤ c∧c ≤ 57:=hcl.elim id fun h=>absurd h h46
              obtain ⟨h48,h57⟩:=hdg
              have d46 : ((c : Int) == 46) = false:=by simpa using (by omega : ¬ (c : Int) = 46)
              clear hcl
              by_cases hz0 : c = 48∧nd = 0
              · obtain ⟨rfl,hn0⟩:=hz0
                subst hn0
                have HRF2:=Lib.hid (show rfN B a (j + 1) = ⟨mt,0,ndm,dp - 1,dot,true,tr⟩ by rw [HRF.out]; rfl)
                go_wp2_with (fail)
                go_roundg (m - a - (j + 1))
                case measure=>omega
                case rel=>exact ⟨rfl,rfl,j + 1,x + 1,_,rfl,by omega,HX1,by omega,by omega,by go_num,HRF2,rfl,rfl,rfl,rfl,rfl,rfl,rfl⟩
              · have hcase : (c = 48∧1 ≤ nd) ∨ c ≠ 48:=by omega
                by_cases h19 : ndm < 19
                · have HRF2:=Lib.hid (show rfN B a (j + 1) = ⟨mt * 10 + (c - 48),nd + 1,ndm + 1,dp,dot,true,tr⟩ by rw [HRF.out]; unfold rfStep; dsimp only; rw [if_neg h46,if_neg hz0,if_pos h19])
                  have hm18:=mb2 h19
                  clear mb1 mb2 hz0
                  rcases hcase with ⟨rfl,hN1⟩ | hc48
                  · have dn : ((nd : Int) == 0) = false:=by simpa using (by omega : ¬ (nd : Int) = 0)
                    go_wp2_with (fail)
                    go_roundg (m - a - (j + 1))
                    case measure=>omega
                    case rel=>exact ⟨rfl,rfl,j + 1,x + 1,_,rfl,by omega,HX1,by omega,by omega,by go_num,HRF2,congrArg (Value.int .u64) (by show _ = ((mt * 10 + (48 - 48) : Nat) : Int); omega),rfl,rfl,rfl,by go_num,by go_num,rfl⟩
                  · have d48 : ((c : Int) == 48) = false:=by simpa using (by omega : ¬ (c : Int) = 48)
                    go_wp2_with (fail)
                    go_roundg (m - a - (j + 1))
                    case measure=>omega
                    case rel=>exact ⟨rfl,rfl,j + 1,x + 1,_,rfl,by omega,HX1,by omega,by omega,by go_num,HRF2,congrArg (Value.int .u64) (by show _ = ((mt * 10 + (c - 48) : Nat) : Int); omega),rfl,rfl,rfl,by go_num,by go_num,rfl⟩
                · have HRF2:=Lib.hid (show rfN B a (j + 1) = ⟨mt,nd + 1,ndm,dp,dot,true,tr || decide (c ≠ 48)⟩ by rw [HRF.out]; unfold rfStep; dsimp only; rw [if_neg h46,if_neg hz0,if_neg h19])
                  clear mb1 mb2 hz0
                  rcases hcase with ⟨rfl,hN1⟩ | hc48
                  · have dn : ((nd : Int) == 0) = false:=by simpa using (by omega : ¬ (nd : Int) = 0)
                    go_wp2_with (fail)
                    go_roundg (m - a - (j + 1))
                    case measure=>omega
                    case rel=>exact ⟨rfl,rfl,j + 1,x + 1,_,rfl,by omega,HX1,by omega,by omega,by go_num,HRF2,rfl,by simp,rfl,rfl,by go_num,rfl,rfl⟩
                  · have d48 : ((c : Int) == 48) = false:=by simpa using (by omega : ¬ (c : Int) = 48)
                    have HE:=Lib.hid (show decide (c ≠ 48) = true from decide_eq_true hc48)
                    go_wp2_with (fail)
                    go_roundg (m - a - (j + 1))
                    case measure=>omega
                    case rel=>exact ⟨rfl,rfl,j + 1,x + 1,_,rfl,by omega,HX1,by omega,by omega,by go_num,HRF2,rfl,by rw [HE.out]; simp,rfl,rfl,by go_num,rfl,rfl⟩
          · have hjm : j = m - a:=by have:=hx.out; omega
            have hxe : x = m:=by omega
            subst hxe
            rw [hjm] at hr
            have HRS:=Lib.hid hr.out
            by_cases hmz2 : x = s.size
            · have hlt2 : ¬ x < s.size:=by omega
              clear hlt ok hjm hx
              go_wp2_with (fail)
              go_meet
              case rel=>rw [HRS.out]; exact ⟨⟨rfl,rfl,rfl,rfl,rfl,rfl,rfl⟩,rfl,rfl,rfl⟩
            · have hxz : x < s.size:=by omega
              have hex:=HN.out.ex.resolve_left hmz2
              have hb:=HBY.out x hxz
              obtain ⟨c,hc⟩ : ∃ c,B x = c:=⟨_,rfl⟩
              rw [hc] at hb
              have hce : c = 101 ∨ c = 69:=by rw [← hc]; exact hex.1
              clear hlt ok hjm hx hex hmz2 hc
              rcases hce with rfl | rfl
              all_goals
                go_wp2_with (fail)
                go_meet
                case rel=>rw [HRS.out]; exact ⟨⟨rfl,rfl,rfl,rfl,rfl,rfl,rfl⟩,rfl,rfl,rfl⟩
      case rest=>as_aux_lemma =>
        obtain ⟨⟨rfl,rfl,rfl,rfl,rfl,rfl,rfl⟩,rfl,rfl,rfl⟩:=hcut
        have ok:=rfN_ok HN.out (m - a) (by omega)
        obtain ⟨mb1,mb2⟩:=mant_bd ok
        have hdig:=HN.out.some
        have hexd : rfEx B s.size a m b = if (rfN B a (m - a)).mant = 0 then 0 else (if (rfN B a (m - a)).dot then (rfN B a (m - a)).dp else ((rfN B a (m - a)).nd : Int)) + exZ B s.size m b - ((rfN B a (m - a)).ndm : Int):=rfl
        have hmd : rfMant B a m = (rfN B a (m - a)).mant:=rfl
        have htd : rfTr B a m = (rfN B a (m - a)).tr:=rfl
        have hl1:=ok.lo
        have hl2:=ok.hi
        have hl3:=ok.nd
        have hl4:=ok.ndm
        obtain ⟨r,hr⟩ : ∃ r,rfN B a (m - a) = r:=⟨_,rfl⟩
        rw [hr] at hdig hexd hmd htd hl1 hl2 hl3 hl4 mb1
        obtain ⟨D1,hD1⟩ : ∃ z,(if r.dot then r.dp else (r.nd : Int)) = z:=⟨_,rfl⟩
        have hDb : -800 ≤ D1∧D1 ≤ 800:=by
          rw [← hD1]
          split <;> omega
        rw [hD1] at hexd
        rw [hr]
        have HEX:=Lib.hid hexd
        have HMD:=Lib.hid hmd
        have HTD:=Lib.hid htd
        have HD1:=Lib.hid hD1
        obtain ⟨mt,nd,ndm,dp,dot,dig,tr⟩:=r
        have hdig : dig = true:=hdig
        subst hdig
        obtain ⟨hDa,hDb⟩:=hDb
        dsimp only at mb1 hl4 HEX HD1 HMD HTD ⊢
        clear ok mb2 hexd hmd htd hl1 hl2 hl3 hr hD1
        go_upto_if 142 with (fail)
        go_cut [17] (fun z wx=>z = .int .i64 D1∧wx = wc)
        case first =>
          have h:=HD1.out
          cases dot
          · have h : (nd : Int) = D1:=by simpa using h
            have HH:=Lib.hid h
            clear h
            go_wp2_with (fail)
            go_meet
            case rel=>exact ⟨congrArg (Value.int .i64) HH.out,rfl⟩
          · have h : dp = D1:=by simpa using h
            subst h
            go_wp2_with (fail)
            go_meet
            case rel=>exact ⟨rfl,rfl⟩
        case rest =>
          obtain ⟨rfl,rfl⟩:=hcut
          clear HD1
          by_cases hmz2 : m = s.size
          · have HXV:=Lib.hid (show exZ B s.size m b = 0 by unfold exZ; rw [if_pos hmz2])
            subst hmz2
            rcases Nat.eq_zero_or_pos mt with hmt | hmt
            · subst hmt
              have HF:=Lib.hid (show rfEx B s.size a s.size b = 0 by rw [HEX.out,if_pos rfl])
              go_wp2_with (fail)
              try rw [Exit.noGoto_ret]
              refine bodyPost_ret (v:=.tuple #[.int .u64 0,.int .i64 0,.bool ng,.bool tr,.bool false,.int .i64 (s.size : Int),.bool true]) (by simp [results,Tryz.results232,go_sem]) rfl ?_
              exact ⟨by rw [HMD.out,HTD.out,HF.out]; rfl,rfl⟩
            · have dmt : ((mt : Int) != 0) = true:=by simpa using (by omega : ¬ (mt : Int) = 0)
              obtain ⟨X,hX⟩ : ∃ X,D1 - (ndm : Int) = X:=⟨_,rfl⟩
              have eX : IntKind.i64.wrap (D1 - (ndm : Int)) = X:=by rw [hX,IntKind.wrap_i64]; omega
              have HF:=Lib.hid (show rfEx B s.size a s.size b = X by rw [HEX.out,if_neg (by omega),HXV.out]; omega)
              clear hX
              go_wp2_with (fail)
              try rw [Exit.noGoto_ret]
              refine bodyPost_ret (v:=.tuple #[.int .u64 (mt : Int),.int .i64 X,.bool ng,.bool tr,.bool false,.int .i64 (s.size : Int),.bool true]) (by simp [results,Tryz.results232,go_sem]) rfl ?_
              exact ⟨by rw [HMD.out,HTD.out,HF.out],rfl⟩
          · have hxz : m < s.size:=by omega
            obtain ⟨hce,hsg,hbz,hzb,hdgs⟩:=HN.out.ex.resolve_left hmz2
            have hb:=HBY.out m hxz
            have hexz:=HN.out.exz
            have HXZ : Hid (exZ B s.size m b = if B (m + 1) = 45 then -((exN B b (s.size - b) : Nat) : Int) else ((exN B b (s.size - b) : Nat) : Int)):=Lib.hid (by unfold exZ; rw [if_neg hmz2])
            have HEXS:=Lib.hid (HN.out.exs hmz2)
            have hm1z : m + 1 < s.size:=by omega
            have hb1:=HBY.out (m + 1) hm1z
            obtain ⟨c,hc⟩ : ∃ c,B m = c:=⟨_,rfl⟩
            rw [hc] at hb hce
            have L1:=Lib.hid (low_any c (by unfold dgc; omega))
            have hlc : (if c = 69 then 101 else c : Nat) = 101:=by rcases hce with rfl | rfl <;> rfl
            rw [hlc] at L1
            have HDG:=Lib.hid hdgs
            have HSG2:=Lib.hid hsg
            have f1 : decide (m < s.size) = true:=decide_eq_true hxz
            have f2 : decide (s.size ≤ m + 1) = false:=decide_eq_false (by omega)
            have f3 : decide (s.size ≤ b) = false:=decide_eq_false (by omega)
            clear hc hlc hdgs hsg hmz2
            go_wp2_with (fail)
            refine (L1.out _).mono ?_
            rintro e w' ⟨rfl,rfl⟩
            go_upto_block 4 with (fail)
            go_cut [7,19] (fun i sg wx=>i = .int .i64 (b : Int)∧sg = .int .i64 (if B (m + 1) = 45 then -1 else 1)∧wx = wc)
            case first =>
              have hsg:=HSG2.out
              unfold dgc at hsg
              rcases hsg with ⟨rfl,h5⟩ | ⟨rfl,h5 | h5⟩
              · have d1 : ((B (m + 1) : Int) == 43) = false:=by simpa using (by omega : ¬ (B (m + 1) : Int) = 43)
                have d2 : ((B (m + 1) : Int) == 45) = false:=by simpa using (by omega : ¬ (B (m + 1) : Int) = 45)
                have HE:=Lib.hid (show (if B (m + 1) = 45 then -1 else 1 : Int) = 1 from if_neg (by omega))
                clear h5
                go_wp2_with (fail)
                go_meet
                case rel=>exact ⟨by go_num,by rw [HE.out],rfl⟩
              · have d1 : ((B (m + 1) : Int) == 43) = true:=by rw [h5]; rfl
                have HE:=Lib.hid (show (if B (m + 1) = 45 then -1 else 1 : Int) = 1 from if_neg (by omega))
                clear h5
                go_wp2_with (fail)
                go_meet
                case rel=>exact ⟨congrArg (Value.int .i64) (by omega),by rw [HE.out],rfl⟩
              · have d1 : ((B (m + 1) : Int) == 43) = false:=by rw [h5]; rfl
                have d2 : ((B (m + 1) : Int) == 45) = true:=by rw [h5]; rfl
                have HE:=Lib.hid (show (if B (m + 1) = 45 then -1 else 1 : Int) = -1 from if_pos h5)
                clear h5
                go_wp2_with (fail)
                go_meet
                case rel=>exact ⟨congrArg (Value.int .i64) (by omega),by rw [HE.out],rfl⟩
            case rest=>as_aux_lemma =>
              obtain ⟨rfl,rfl,rfl⟩:=hcut
              have hbb:=HBY.out b hbz
              have hdb:=HDG.out b (Nat.le_refl _) hbz
              obtain ⟨E,hE⟩ : ∃ E,(if B (m + 1) = 45 then -1 else 1 : Int) = E:=⟨_,rfl⟩
              have hE1 : E = 1 ∨ E = -1:=by rw [← hE]; split <;> simp
              have HXZ2 : Hid (exZ B s.size m b = ((exN B b (s.size - b) : Nat) : Int) * E):=Lib.hid (by
                rw [HXZ.out,← hE]
                split <;> omega)
              rw [hE]
              obtain ⟨c2,hc2⟩ : ∃ c,B b = c:=⟨_,rfl⟩
              rw [hc2] at hbb hdb
              obtain ⟨h6,h7⟩:=hdb
              have f4 : decide (c2 < 48) = false:=decide_eq_false (by omega)
              have f5 : decide (57 < c2) = false:=decide_eq_false (by omega)
              clear hE hc2 hb1 hb L1 HXZ HSG2 hce
              go_wp2_with (fail)
              go_loopg [7,9,20] (s.size - b) (fun qq i us e wr=>wr = wc∧us = .bool false∧∃ (j x y : Nat),s.size - b - j = qq∧j ≤ s.size - b∧Hid (x = b + j)∧b ≤ x∧x ≤ s.size∧i = .int .i64 (x : Int)∧e = .int .i64 (y : Int)∧y ≤ 9999∧Hid (exN B b j = y))
              case atStart=>exact ⟨rfl,rfl,0,b,0,rfl,Nat.zero_le _,Lib.hid rfl,Nat.le_refl _,Nat.le_of_lt hbz,rfl,rfl,by omega,Lib.hid rfl⟩
              case round =>
                obtain ⟨rfl,rfl,j,x,y,rfl,hj,hx,hbx,hxz2,rfl,rfl,hy,hey⟩:=hrel
                clear hbb h6 h7
                by_cases hlt : x < s.size
                · have hbb:=HBY.out x hlt
                  have hdb:=HDG.out x hbx hlt
                  have hjz : j < s.size - b:=by have:=hx.out; omega
                  have hex2:=HEXS.out j (by omega)
                  have hnx : exN B b (j + 1) = y * 10 + (B x - 48):=by rw [exN,hey.out,← hx.out]
                  rw [hey.out] at hex2
                  obtain ⟨h9,h99⟩:=hex2
                  obtain ⟨c3,hc3⟩ : ∃ c,B x = c:=⟨_,rfl⟩
                  rw [hc3] at hbb hdb hnx
                  rw [hnx] at h99
                  obtain ⟨h6,h7⟩:=hdb
                  have HNX:=Lib.hid hnx
                  have HX1:=Lib.hid (show x + 1 = b + (j + 1) by have:=hx.out; omega)
                  have d95 : ((c3 : Int) == 95) = false:=by simpa using (by omega : ¬ (c3 : Int) = 95)
                  have dy : decide (y < 10000) = true:=decide_eq_true (by omega)
                  clear hc3 hnx
                  go_wp2_with (fail)
                  go_roundg (s.size - b - (j + 1))
                  case measure=>omega
                  case rel=>exact ⟨rfl,rfl,j + 1,x + 1,y * 10 + (c3 - 48),rfl,by omega,HX1,by omega,by omega,by go_num,congrArg (Value.int .i64) (by omega),h99,HNX⟩
                · have hxe : x = s.size:=by omega
                  have hje : j = s.size - b:=by have:=hx.out; omega
                  rw [hje] at hey
                  subst hxe
                  have HXZ3 : Hid (exZ B s.size m b = (y : Int) * E):=Lib.hid (by rw [HXZ2.out,hey.out])
                  have hyE : (y : Int) * E = y ∨ (y : Int) * E = -(y : Int):=by rcases hE1 with rfl | rfl <;> omega
                  obtain ⟨Y,hY⟩ : ∃ Y,(y : Int) * E = Y:=⟨_,rfl⟩
                  rw [hY] at hyE HXZ3
                  have eY : IntKind.i64.wrap ((y : Int) * E) = Y:=by rw [hY,IntKind.wrap_i64]; omega
                  obtain ⟨D2,hD2⟩ : ∃ z,D1 + Y = z:=⟨_,rfl⟩
                  have eD : IntKind.i64.wrap (D1 + Y) = D2:=by rw [hD2,IntKind.wrap_i64]; omega
                  have hD2b : -20000 ≤ D2∧D2 ≤ 20000:=by omega
                  obtain ⟨hd2a,hd2b⟩:=hD2b
                  have HEX2:=Lib.hid (show rfEx B s.size a m b = if mt = 0 then 0 else D2 - (ndm : Int) by rw [HEX.out,HXZ3.out,hD2])
                  clear hY hyE hD2 hexz hey hje hx hlt
                  rcases Nat.eq_zero_or_pos mt with hmt | hmt
                  · subst hmt
                    have HF:=Lib.hid (show rfEx B s.size a m b = 0 by rw [HEX2.out,if_pos rfl])
                    go_wp2_with (fail)
                    try rw [Exit.noGoto_ret]
                    refine bodyPost_ret (v:=.tuple #[.int .u64 0,.int .i64 0,.bool ng,.bool tr,.bool false,.int .i64 (s.size : Int),.bool true]) (by simp [results,Tryz.results232,go_sem]) rfl ?_
                    exact ⟨by rw [HMD.out,HTD.out,HF.out]; rfl,rfl⟩
                  · have dmt : ((mt : Int) != 0) = true:=by simpa using (by omega : ¬ (mt : Int) = 0)
                    obtain ⟨X,hX⟩ : ∃ X,D2 - (ndm : Int) = X:=⟨_,rfl⟩
                    have eX : IntKind.i64.wrap (D2 - (ndm : Int)) = X:=by rw [hX,IntKind.wrap_i64]; omega
                    have HF:=Lib.hid (show rfEx B s.size a m b = X by rw [HEX2.out,if_neg (by omega),hX])
                    clear hX
                    go_wp2_with (fail)
                    try rw [Exit.noGoto_ret]
                    refine bodyPost_ret (v:=.tuple #[.int .u64 (mt : Int),.int .i64 X,.bool ng,.bool tr,.bool false,.int .i64 (s.size : Int),.bool true]) (by simp [results,Tryz.results232,go_sem]) rfl ?_
                    exact ⟨by rw [HMD.out,HTD.out,HF.out],rfl⟩
end LM
end Go.Proofs.YtihbgghlnppkiaaGreatDoor
