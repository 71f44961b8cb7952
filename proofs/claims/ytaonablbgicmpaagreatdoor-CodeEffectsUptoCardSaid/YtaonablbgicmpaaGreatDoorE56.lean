import Derived.Test.YtaonablbgicmpaaGreatDoorE19
import Derived.Deep.LoopGhost
import Derived.BigQuiet
set_option linter.unusedVariables false
set_option linter.unusedSimpArgs false
set_option maxRecDepth 100000
set_option maxHeartbeats 16000000
namespace Go.Proofs.YtaonablbgicmpaaGreatDoor
open Go Go.RowKit
namespace LM
attribute [local go_sem] run_store_flt
theorem ciequal (l : List Ins) (B B' : Option Addr) (cap cap' b off b' off' : Nat) (w : World) (hB : 0 < l.length → B = some ⟨b,off,none⟩) (hB' : 0 < l.length → B' = some ⟨b',off',none⟩) (hF : InsAt w b off l) (hF' : InsAt w b' off' l) (hc1 : l.length ≤ cap) (hc2 : cap ≤ 9223372036854775807) (hc1' : l.length ≤ cap') :
  Calls Tryz.prog 49 #[.slice B l.length cap,.slice B' l.length cap'] w fun e w'=>e = .returned (.bool true)∧Below w.heap.size w w':=by
 rcases Nat.eq_zero_or_pos l.length with h0 | hpos
 ·rw [h0]
  clear hF hF' hB hB' hc1 hc1'
  go_enter Tryz.func49,Tryz.ntmps49
  go_wp2_with (fail)
  go_loopg [13] 0 (fun kk i wr=>wr = w∧i = .int .i64 0)
  case atStart=>exact ⟨rfl,rfl⟩
  case round =>
   obtain ⟨rfl,rfl⟩:=hrel
   go_wp2_with (fail)
   go_ret
   exact ⟨rfl,Below.refl _ _⟩
 obtain rfl:=hB hpos
 obtain rfl:=hB' hpos
 have HF:=Lib.hid hF
 have HF':=Lib.hid hF'
 clear hF hF' hB hB'
 go_enter Tryz.func49,Tryz.ntmps49
 go_wp2_with (fail)
 go_loopg [13] l.length (fun kk i wr=>Below w.heap.size w wr∧∃ j : Nat,j ≤ l.length∧kk = l.length - j∧i = .int .i64 (j : Int))
 case atStart=>exact ⟨Below.refl _ _,0,Nat.zero_le _,rfl,rfl⟩
 case round =>
  obtain ⟨hbr,j,hj,rfl,rfl⟩:=hrel
  have HBR:=Lib.hid hbr
  clear hbr
  by_cases hjl : j < l.length
  ·obtain ⟨x,hx,hdr⟩:=drop_at hjl
   obtain ⟨hbl,⟨x0,x1,x2⟩⟩:=(HF.out.below HBR.out) j x hx
   obtain ⟨hbl',⟨y0,y1,y2⟩⟩:=(HF'.out.below HBR.out) j x hx
   clear hx hdr
   go_wp2_with (fail)
   go_quiet (fail)
   go_wp2_with (fail)
   go_roundg (l.length - (j + 1))
   case measure=>omega
   case rel=>exact ⟨below_drewN HBR.out _,j + 1,by omega,rfl,by go_num⟩
  ·have hje : j = l.length:=by omega
   subst hje
   go_wp2_with (fail)
   go_ret
   exact ⟨rfl,HBR.out⟩
theorem csequal (l : List ByteArray) (B B' : Option Addr) (cap cap' b off b' off' : Nat) (w : World) (hB : 0 < l.length → B = some ⟨b,off,none⟩) (hB' : 0 < l.length → B' = some ⟨b',off',none⟩) (hF : StrAt w b off l) (hF' : StrAt w b' off' l) (hc1 : l.length ≤ cap) (hc2 : cap ≤ 9223372036854775807) (hc1' : l.length ≤ cap') :
  Calls Tryz.prog 27 #[.slice B l.length cap,.slice B' l.length cap'] w fun e w'=>e = .returned (.bool true)∧Below w.heap.size w w':=by
 rcases Nat.eq_zero_or_pos l.length with h0 | hpos
 ·rw [h0]
  clear hF hF' hB hB' hc1 hc1'
  go_enter Tryz.func27,Tryz.ntmps27
  go_wp2_with (fail)
  go_loopg [13] 0 (fun kk i wr=>wr = w∧i = .int .i64 0)
  case atStart=>exact ⟨rfl,rfl⟩
  case round =>
   obtain ⟨rfl,rfl⟩:=hrel
   go_wp2_with (fail)
   go_ret
   exact ⟨rfl,Below.refl _ _⟩
 obtain rfl:=hB hpos
 obtain rfl:=hB' hpos
 have HF:=Lib.hid hF
 have HF':=Lib.hid hF'
 clear hF hF' hB hB'
 go_enter Tryz.func27,Tryz.ntmps27
 go_wp2_with (fail)
 go_loopg [13] l.length (fun kk i wr=>Below w.heap.size w wr∧∃ j : Nat,j ≤ l.length∧kk = l.length - j∧i = .int .i64 (j : Int))
 case atStart=>exact ⟨Below.refl _ _,0,Nat.zero_le _,rfl,rfl⟩
 case round =>
  obtain ⟨hbr,j,hj,rfl,rfl⟩:=hrel
  have HBR:=Lib.hid hbr
  clear hbr
  by_cases hjl : j < l.length
  ·obtain ⟨x,hx,hdr⟩:=drop_at hjl
   obtain ⟨hbl,x0⟩:=(HF.out.below HBR.out) j x hx
   obtain ⟨hbl',y0⟩:=(HF'.out.below HBR.out) j x hx
   clear hx hdr
   go_wp2_with (fail)
   go_quiet (fail)
   go_wp2_with (fail)
   go_roundg (l.length - (j + 1))
   case measure=>omega
   case rel=>exact ⟨below_drewN HBR.out _,j + 1,by omega,rfl,by go_num⟩
  ·have hje : j = l.length:=by omega
   subst hje
   go_wp2_with (fail)
   go_ret
   exact ⟨rfl,HBR.out⟩
def PrS (p p' : Prh) : Prop:=p.nm = p'.nm∧p.pa = p'.pa∧p.rs = p'.rs∧p.sl = p'.sl∧p.de = p'.de∧p.fr = p'.fr∧p.code = p'.code
theorem pr_blocks (w : World) (p p' : Prh) : ∃ W2,(w.alloc (prO p)).alloc (prO p') = W2∧Below w.heap.size w W2∧W2.heap[w.heap.size]? = some (prO p)∧W2.heap[w.heap.size + 1]? = some (prO p'):=by
 have h1:=(Obs.nil.new (w:=w) (prO p)).new (prO p')
 simp only [World.size_alloc] at h1
 exact ⟨_,rfl,((Below.refl _ w).alloc (Nat.le_refl _) _).alloc (by simp) _,h1.tl.hd,h1.hd⟩
theorem csameproc (p p' : Prh) (w : World) (hs : PrS p p') (hv : PrV w p) (hv' : PrV w p') (hok : p.Ok) (hok' : p'.Ok) : Calls Tryz.prog 26 #[prA p,prA p'] w fun e w'=>e = .returned (.bool true)∧Below w.heap.size w w':=by
 obtain ⟨nm,pa,rs,sl,de,fr,B,cap,code⟩:=p
 obtain ⟨nm',pa',rs',sl',de',fr',B',cap',code'⟩:=p'
 obtain ⟨h1,h2,h3,h4,h5,h6,h7⟩:=hs
 dsimp only at h1 h2 h3 h4 h5 h6 h7
 subst h1; subst h2; subst h3; subst h4; subst h5; subst h6; subst h7
 obtain ⟨W2,hW2,hb2,ho,ho'⟩:=pr_blocks w ⟨nm,pa,rs,sl,de,fr,B,cap,code⟩ ⟨nm,pa,rs,sl,de,fr,B',cap',code⟩
 obtain ⟨b,off,hB,hF⟩:=hv.below hb2
 obtain ⟨b',off',hB',hF'⟩:=hv'.below hb2
 have E:=Lib.hid (ciequal code B B' cap cap' b off b' off' W2 hB hB' hF hF' hok.cap.1 hok.cap.2 hok'.cap.1)
 obtain ⟨x0,x1,x2,x3,x4,x5,x6⟩:=P7.of_block ho
 obtain ⟨y0,y1,y2,y3,y4,y5,y6⟩:=P7.of_block ho'
 have HW2:=Lib.hid hW2
 have HB2:=Lib.hid hb2
 dsimp only at x0 x1 x2 x3 x4 x5 x6 y0 y1 y2 y3 y4 y5 y6
 have e1 : (nm.toList == nm.toList) = true:=by simp
 clear hW2 hb2 ho ho' hv hv' hB hB' hF hF' hok hok'
 go_enter Tryz.func26,Tryz.ntmps26
 go_wp2_with (fail)
 rw [HW2.out]
 go_wp2_with (fail)
 refine E.out.mono ?_
 rintro e w1 ⟨rfl,hb1⟩
 have HB1:=Lib.hid (bel_trans (B:=w.heap.size) HB2.out hb1)
 clear hb1
 go_wp2_with (fail)
 go_ret
 exact ⟨rfl,HB1.out⟩
theorem cpequal (l l' : List Prh) (hl : l.length = l'.length) (B B' : Option Addr) (cap cap' b off b' off' : Nat) (w : World) (hB : 0 < l.length → B = some ⟨b,off,none⟩) (hB' : 0 < l.length → B' = some ⟨b',off',none⟩) (hF : PrcAt w b off l) (hF' : PrcAt w b' off' l') (hc1 : l.length ≤ cap) (hc2 : cap ≤ 9223372036854775807) (hc1' : l.length ≤ cap')
  (hcl : ∀ (j : Nat) p p',l[j]? = some p → l'[j]? = some p' → PrS p p'∧PrV w p∧PrV w p'∧p.Ok∧p'.Ok) :
  Calls Tryz.prog 25 #[.slice B l.length cap,.slice B' l.length cap',.func (.func 26) #[] #[]] w fun e w'=>e = .returned (.bool true)∧Below w.heap.size w w':=by
 rcases Nat.eq_zero_or_pos l.length with h0 | hpos
 ·rw [h0]
  clear hF hF' hB hB' hc1 hc1' hcl hl
  go_enter Tryz.func25,Tryz.ntmps25
  go_wp2_with (fail)
  go_loopg [17] 0 (fun kk i wr=>wr = w∧i = .int .i64 0)
  case atStart=>exact ⟨rfl,rfl⟩
  case round =>
   obtain ⟨rfl,rfl⟩:=hrel
   go_wp2_with (fail)
   go_ret
   exact ⟨rfl,Below.refl _ _⟩
 obtain rfl:=hB hpos
 obtain rfl:=hB' hpos
 have HF:=Lib.hid hF
 have HF':=Lib.hid hF'
 have HCL:=Lib.hid hcl
 have HL:=Lib.hid hl
 clear hF hF' hB hB' hcl hl
 go_enter Tryz.func25,Tryz.ntmps25
 go_wp2_with (fail)
 go_loopg [17] l.length (fun kk i wr=>Below w.heap.size w wr∧∃ j : Nat,j ≤ l.length∧kk = l.length - j∧i = .int .i64 (j : Int))
 case atStart=>exact ⟨Below.refl _ _,0,Nat.zero_le _,rfl,rfl⟩
 case round =>
  obtain ⟨hbr,j,hj,rfl,rfl⟩:=hrel
  have HBR:=Lib.hid hbr
  clear hbr
  by_cases hjl : j < l.length
  ·obtain ⟨p,hp,hdr⟩:=drop_at hjl
   obtain ⟨p',hp',hdr'⟩:=drop_at (show j < l'.length by have:=HL.out; omega)
   obtain ⟨hbl,x0,x1,x2,x3,x4,x5,x6⟩:=(HF.out.below HBR.out) j p hp
   obtain ⟨hbl',hy⟩:=(HF'.out.below HBR.out) j p' hp'
   obtain ⟨y0,y1,y2,y3,y4,y5,y6⟩:=hy.keep ((Below.refl wr.heap.size wr).alloc (Nat.le_refl _) (prO p)) hbl'
   obtain ⟨W2,hW2,hb2,ho,ho'⟩:=pr_blocks wr p p'
   obtain ⟨c1,c2,c3,c4,c5⟩:=HCL.out j p p' hp hp'
   have hbw:=bel_trans (B:=w.heap.size) HBR.out hb2
   have CL:=Lib.hid (csameproc p p' W2 c1 (c2.below hbw) (c3.below hbw) c4 c5)
   have HW2:=Lib.hid hW2
   have HB2:=Lib.hid hbw
   obtain ⟨u0,u1,u2,u3,u4,u5,u6⟩:=P7.of_block ho
   obtain ⟨v0,v1,v2,v3,v4,v5,v6⟩:=P7.of_block ho'
   clear hp hdr hp' hdr' hy hW2 hb2 ho ho' c1 c2 c3 c4 c5 hbw
   go_wp2_with (fail)
   rw [HW2.out]
   refine CL.out.mono ?_
   rintro e w3 ⟨rfl,hb3⟩
   have HB3:=Lib.hid (bel_trans (B:=w.heap.size) HB2.out hb3)
   clear hb3
   go_wp2_with (fail)
   go_roundg (l.length - (j + 1))
   case measure=>omega
   case rel=>exact ⟨HB3.out,j + 1,by omega,rfl,by go_num⟩
  ·have hje : j = l.length:=by omega
   subst hje
   go_wp2_with (fail)
   go_ret
   exact ⟨rfl,HBR.out⟩
theorem cdequal (kids kids' : Fr) (hl : kids.len = kids'.len) (B B' : Option Addr) (cap cap' b off b' off' : Nat) (w : World) (hB : 0 < kids.len → B = some ⟨b,off,none⟩) (hB' : 0 < kids.len → B' = some ⟨b',off',none⟩) (hF : FAt w b off kids) (hF' : FAt w b' off' kids') (hc1 : kids.len ≤ cap) (hc2 : cap ≤ 9223372036854775807) (hc1' : kids.len ≤ cap')
  (hcl : ∀ hh k hh' k' j r r',kids.drop j = .cons hh k r → kids'.drop j = .cons hh' k' r' → ∀ W,Below w.heap.size w W → DatV W hh k → DatV W hh' k' → Calls Tryz.prog 29 #[datA hh k.len,datA hh' k'.len] W fun e w'=>e = .returned (.bool true)∧Below W.heap.size W w') :
  Calls Tryz.prog 28 #[.slice B kids.len cap,.slice B' kids.len cap',.func (.func 29) #[] #[]] w fun e w'=>e = .returned (.bool true)∧Below w.heap.size w w':=by
 rcases Nat.eq_zero_or_pos kids.len with h0 | hpos
 ·rw [h0]
  clear hF hF' hB hB' hc1 hc1' hcl hl
  go_enter Tryz.func28,Tryz.ntmps28
  go_wp2_with (fail)
  go_loopg [17] 0 (fun kk i wr=>wr = w∧i = .int .i64 0)
  case atStart=>exact ⟨rfl,rfl⟩
  case round =>
   obtain ⟨rfl,rfl⟩:=hrel
   go_wp2_with (fail)
   go_ret
   exact ⟨rfl,Below.refl _ _⟩
 obtain rfl:=hB hpos
 obtain rfl:=hB' hpos
 have HF:=Lib.hid hF
 have HF':=Lib.hid hF'
 have HCL:=Lib.hid hcl
 have HL:=Lib.hid hl
 clear hF hF' hcl hB hB' hl
 go_enter Tryz.func28,Tryz.ntmps28
 go_wp2_with (fail)
 go_loopg [17] kids.len (fun kk i wr=>Below w.heap.size w wr∧∃ j : Nat,j ≤ kids.len∧kk = kids.len - j∧i = .int .i64 (j : Int))
 case atStart=>exact ⟨Below.refl _ _,0,Nat.zero_le _,rfl,rfl⟩
 case round =>
  obtain ⟨hbr,j,hj,rfl,rfl⟩:=hrel
  have HBR:=Lib.hid hbr
  clear hbr
  by_cases hjl : j < kids.len
  ·obtain ⟨hh,k,r,hdr,hdr1⟩:=Fr.cons_of_lt hjl
   obtain ⟨hh',k',r',hdr',hdr1'⟩:=Fr.cons_of_lt (show j < kids'.len by have:=HL.out; omega)
   obtain ⟨hbl,⟨x0,x1,x2,x3,x4,x5,x6,x7⟩,D⟩:=counted_item (FAt.below HBR.out _ _ _ HF.out) hdr
   obtain ⟨hbl',hC',D'⟩:=counted_item (FAt.below HBR.out _ _ _ HF'.out) hdr'
   obtain ⟨y0,y1,y2,y3,y4,y5,y6,y7⟩:=hC'.keep ((Below.refl wr.heap.size wr).alloc (Nat.le_refl _) (datO hh k.len)) hbl'
   obtain ⟨W2,hW2⟩ : ∃ W2,(wr.alloc (datO hh k.len)).alloc (datO hh' k'.len) = W2:=⟨_,rfl⟩
   have hb2 : Below wr.heap.size wr W2:=by rw [← hW2]; exact ((Below.refl _ wr).alloc (Nat.le_refl _) _).alloc (by simp) _
   have hO : Obs W2 [(wr.heap.size + 1,datO hh' k'.len),(wr.heap.size,datO hh k.len)]:=by
    rw [← hW2]
    have h1:=(Obs.nil.new (w:=wr) (datO hh k.len)).new (datO hh' k'.len)
    simp only [World.size_alloc] at h1
    exact h1
   have CL:=Lib.hid (HCL.out hh k hh' k' j r r' hdr hdr' W2 (bel_trans (B:=w.heap.size) HBR.out hb2) (D.below hb2) (D'.below hb2))
   have HW2:=Lib.hid hW2
   have HB2:=Lib.hid (bel_trans (B:=w.heap.size) HBR.out hb2)
   obtain ⟨u0,u1,u2,u3,u4,u5,u6,u7⟩:=C8.of_block hO.tl.hd
   obtain ⟨v0,v1,v2,v3,v4,v5,v6,v7⟩:=C8.of_block hO.hd
   clear hdr hdr1 D hdr' hdr1' D' hW2 hb2 hO hC'
   go_wp2_with (fail)
   rw [HW2.out]
   refine CL.out.mono ?_
   rintro e w3 ⟨rfl,hb3⟩
   have HB3:=Lib.hid (bel_trans (B:=w.heap.size) HB2.out hb3)
   clear hb3
   go_wp2_with (fail)
   go_roundg (kids.len - (j + 1))
   case measure=>omega
   case rel=>exact ⟨HB3.out,j + 1,by omega,rfl,by go_num⟩
  ·have hje : j = kids.len:=by omega
   subst hje
   go_wp2_with (fail)
   go_ret
   exact ⟨rfl,HBR.out⟩
theorem cod_blocks (w : World) (c c' : Cod) : ∃ W2,(w.alloc (codO c)).alloc (codO c') = W2∧Below w.heap.size w W2∧W2.heap[w.heap.size]? = some (codO c)∧W2.heap[w.heap.size + 1]? = some (codO c')∧W2.heap.size = w.heap.size + 2:=by
 have h1:=(Obs.nil.new (w:=w) (codO c)).new (codO c')
 simp only [World.size_alloc] at h1
 exact ⟨_,rfl,((Below.refl _ w).alloc (Nat.le_refl _) _).alloc (by simp) _,h1.tl.hd,h1.hd,by simp⟩
theorem csame_by (c c' : Cod) (w : World) (hv : CodV w c) (hv' : CodV w c') (hok : c.Ok) (hok' : c'.Ok) (hp : c.ps.length = c'.ps.length) (hps : ∀ (j : Nat) p p',c.ps[j]? = some p → c'.ps[j]? = some p' → PrS p p') (hg : c.gs = c'.gs) (hk : c.kids.len = c'.kids.len)
  (hcl : ∀ hh k hh' k' j r r',c.kids.drop j = .cons hh k r → c'.kids.drop j = .cons hh' k' r' → ∀ W,Below w.heap.size w W → DatV W hh k → DatV W hh' k' → Calls Tryz.prog 29 #[datA hh k.len,datA hh' k'.len] W fun e w'=>e = .returned (.bool true)∧Below W.heap.size W w') :
  Calls Tryz.prog 11 #[codA c,codA c'] w fun e w'=>e = .returned (.bool true)∧Below w.heap.size w w':=by
 obtain ⟨W2,hW2,hb2,ho,ho',hsz⟩:=cod_blocks w c c'
 have N1 : Hid (∀ W,Below w.heap.size w W → Calls Tryz.prog 25 #[.slice c.PB c.ps.length c.pc,.slice c'.PB c'.ps.length c'.pc,.func (.func 26) #[] #[]] W fun e w'=>e = .returned (.bool true)∧Below W.heap.size W w'):=Lib.hid fun W hW=>by
  obtain ⟨b,off,hB,hF⟩:=(hv.below hW).ps
  obtain ⟨b',off',hB',hF'⟩:=(hv'.below hW).ps
  rw [← hp] at hB' ⊢
  exact cpequal c.ps c'.ps hp c.PB c'.PB c.pc c'.pc b off b' off' W hB hB' hF hF' hok.ps.1 hok.ps.2 (by rw [hp]; exact hok'.ps.1) fun j p p' h1 h2=>⟨hps j p p' h1 h2,(hv.pv p (List.mem_of_getElem? h1)).below hW,(hv'.pv p' (List.mem_of_getElem? h2)).below hW,hok.pr p (List.mem_of_getElem? h1),hok'.pr p' (List.mem_of_getElem? h2)⟩
 have N2 : Hid (∀ W,Below w.heap.size w W → Calls Tryz.prog 27 #[.slice c.GB c.gs.length c.gc,.slice c'.GB c'.gs.length c'.gc] W fun e w'=>e = .returned (.bool true)∧Below W.heap.size W w'):=Lib.hid fun W hW=>by
  obtain ⟨b,off,hB,hF⟩:=(hv.below hW).gs
  obtain ⟨b',off',hB',hF'⟩:=(hv'.below hW).gs
  have h2:=hok'.gs.1
  rw [← hg] at hB' hF' h2 ⊢
  exact csequal c.gs c.GB c'.GB c.gc c'.gc b off b' off' W hB hB' hF hF' hok.gs.1 hok.gs.2 h2
 have N3 : Hid (∀ W,Below w.heap.size w W → Calls Tryz.prog 28 #[.slice c.CB c.kids.len c.cc,.slice c'.CB c'.kids.len c'.cc,.func (.func 29) #[] #[]] W fun e w'=>e = .returned (.bool true)∧Below W.heap.size W w'):=Lib.hid fun W hW=>by
  obtain ⟨b,off,hB,hF⟩:=(hv.below hW).kids
  obtain ⟨b',off',hB',hF'⟩:=(hv'.below hW).kids
  rw [← hk] at hB' ⊢
  exact cdequal c.kids c'.kids hk c.CB c'.CB c.cc c'.cc b off b' off' W hB hB' hF hF' hok.kids.1 hok.kids.2 (by rw [hk]; exact hok'.kids.1) fun hh k hh' k' j r r' h1 h2 W2 hW2=>hcl hh k hh' k' j r r' h1 h2 W2 (bel_trans (B:=w.heap.size) hW hW2)
 have HW2:=Lib.hid hW2
 have HB2:=Lib.hid hb2
 have HSZ:=Lib.hid hsz
 have k0:=K3.of_block ho
 have k1:=K3.of_block ho'
 have K0:=Lib.hid k0
 have K1:=Lib.hid k1
 obtain ⟨x0,x1,x2⟩:=k0
 obtain ⟨y0,y1,y2⟩:=k1
 clear hW2 hb2 ho ho' hv hv' hok hok' hp hps hg hk hcl hsz
 go_enter Tryz.func11,Tryz.ntmps11
 go_wp2_with (fail)
 rw [HW2.out]
 go_wp2_with (fail)
 refine (N1.out _ HB2.out).mono ?_
 rintro e w1 ⟨rfl,hb1⟩
 have HB1:=Lib.hid (bel_trans (B:=w.heap.size) HB2.out hb1)
 have hlt : w.heap.size + 1 < W2.heap.size:=by have:=HSZ.out; omega
 have K0':=Lib.hid (K0.out.keep hb1 (by omega))
 have K1':=Lib.hid (K1.out.keep hb1 hlt)
 have HL1:=Lib.hid (Nat.lt_of_lt_of_le hlt hb1.size)
 clear hb1 x0 x1 x2 y0 y1 y2 hlt
 obtain ⟨x0,x1,x2⟩:=K0'.out
 obtain ⟨y0,y1,y2⟩:=K1'.out
 simp only [Nat.zero_add] at x0 x1 x2 y0 y1 y2
 go_wp2_with (fail)
 refine (N2.out _ HB1.out).mono ?_
 rintro e w2 ⟨rfl,hb2⟩
 have HB3:=Lib.hid (bel_trans (B:=w.heap.size) HB1.out hb2)
 have q0:=K0'.out.keep hb2 (by have:=HL1.out; omega)
 have q1:=K1'.out.keep hb2 HL1.out
 clear hb2 x0 x1 x2 y0 y1 y2
 obtain ⟨x0,x1,x2⟩:=q0
 obtain ⟨y0,y1,y2⟩:=q1
 simp only [Nat.zero_add] at x0 x1 x2 y0 y1 y2
 go_wp2_with (fail)
 refine (N3.out _ HB3.out).mono ?_
 rintro e w3 ⟨rfl,hb3⟩
 have HB4:=Lib.hid (bel_trans (B:=w.heap.size) HB3.out hb3)
 clear hb3 x0 x1 x2 y0 y1 y2
 go_wp2_with (fail)
 go_ret
 exact ⟨rfl,HB4.out⟩
end LM
end Go.Proofs.YtaonablbgicmpaaGreatDoor
