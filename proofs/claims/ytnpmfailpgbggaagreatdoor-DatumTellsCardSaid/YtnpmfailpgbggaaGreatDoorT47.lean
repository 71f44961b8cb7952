import Derived.Test.YtnpmfailpgbggaaGreatDoorT38
set_option linter.unusedVariables false
set_option linter.unusedSimpArgs false
set_option maxRecDepth 100000
set_option maxHeartbeats 16000000
namespace Go.Proofs.YtnpmfailpgbggaaGreatDoor
open Go Go.RowKit
namespace LM
def ronlyB (h : Hd) (n : Nat) (z : Bool) : Bool :=
  if h.k = 0 then (h.n == 0) && (h.t.toList == []) && decide (n = 0)
  else if h.k = 1 ∨ h.k = 2 then z && (h.t.toList == []) && decide (n = 0)
  else if h.k = 3 ∨ h.k = 4 then z && (h.n == 0) && decide (n = 0)
  else z && (h.n == 0) && (h.t.toList == [])
def rkindB (nm : ByteArray → Bool) (h : Hd) (n : Nat) (kl : Int) : Bool :=
  if h.k = 0 then rightN h.fl h.f h.s h.xs else if h.k = 1 then (h.n == 0 || h.n == 1) else if h.k = 2 then csignB h.n else if h.k = 3 then textB h.t else if h.k = 4 then nm h.t
  else if h.k = 5 then true else if h.k = 6 then decide (2 ≤ n) && (kl != 5) && (kl != 6) else if h.k = 7 then decide (n ≤ 200) else false
def zeroN (h : Hd) : Bool:=!h.fl && decide (sg h.s (val h.xs) = 0)
def docB (nm : ByteArray → Bool) (h : Hd) (n : Nat) (kl : Int) : Bool:=rightN h.fl h.f h.s h.xs && ronlyB h n (zeroN h) && rkindB nm h n kl
def rrF (nm : ByteArray → Bool) : Int → Int → Fr → Int
  | left,_,.nil=>left
  | left,deep,.cons h k r =>
    if (left < 1 ∨ 60 < deep ∨ (4 < h.k∧59 < deep)) ∨ docB nm h k.len (lastK k) = false then -1
    else if rrF nm (left - 1) (deep + 1) k < 0 then -1 else rrF nm (rrF nm (left - 1) (deep + 1) k) deep r
def rrD (nm : ByteArray → Bool) (left deep : Int) (h : Hd) (k : Fr) : Int :=
  if (left < 1 ∨ 60 < deep ∨ (4 < h.k∧59 < deep)) ∨ docB nm h k.len (lastK k) = false then -1
  else if rrF nm (left - 1) (deep + 1) k < 0 then -1 else rrF nm (left - 1) (deep + 1) k
theorem rr_cons (nm : ByteArray → Bool) (left deep : Int) (h : Hd) (k r : Fr) : rrF nm left deep (.cons h k r) = if rrD nm left deep h k < 0 then -1 else rrF nm (rrD nm left deep h k) deep r:=by
  rw [rrF]
  unfold rrD
  split
  · rw [if_pos (by decide)]
  · rename_i h1
    by_cases h2 : rrF nm (left - 1) (deep + 1) k < 0
    · rw [if_pos h2,if_pos h2,if_pos (by decide)]
    · rw [if_neg h2,if_neg h2,if_neg h2]
theorem zero_nil {h : Hd} (hx : Lm h.xs) (hr : rightN h.fl h.f h.s h.xs = true) : zeroN h = nothB h.fl h.f h.s h.xs:=by
  unfold zeroN nothB
  rw [hr,Bool.and_true]
  cases hf : h.fl
  · have h2:=hr
    unfold rightN at h2
    rw [hf,if_neg (by decide),Bool.and_eq_true] at h2
    obtain ⟨-,hc,-,hv,-⟩:=right_parts h2.2 hx
    congr 1
    rw [decide_eq_decide]
    constructor
    · intro h3
      rw [h3] at hv
      rw [← hc.2]
      have hv0 : val h.xs = 0:=by rw [hv]; rfl
      rw [val_zero_all hv0]
      rfl
    · intro h3
      have : h.xs = []:=List.eq_nil_of_length_eq_zero h3
      rw [this]
      cases h.s <;> rfl
  · rfl
theorem rightK_doc (nm : ByteArray → Bool) (d : Int) (h : Hd) (kids : Fr) (sub : Bool) (hx : Lm h.xs) :
    rightK nm d h kids sub = (docB nm h kids.len (lastK kids) && (decide (h.k ≤ 4) || (decide (0 < d) && sub))):=by
  unfold docB
  cases hr : rightN h.fl h.f h.s h.xs
  · rw [Bool.false_and,Bool.false_and,Bool.false_and]
    cases hq : rightK nm d h kids sub
    · rfl
    · unfold rightK elseB nothB at hq
      rw [hr] at hq
      by_cases h0 : h.k = 0
      · simp [h0] at hq
      · simp [h0] at hq
  · rw [zero_nil hx hr,Bool.true_and]
    unfold rightK
    generalize nothB h.fl h.f h.s h.xs = z
    have hb : ((((kids.len : Nat) : Int) == 0) : Bool) = decide (kids.len = 0):=by
      rw [Bool.eq_iff_iff,beq_iff_eq,decide_eq_true_eq]
      omega
    rw [hb]
    unfold ronlyB rkindB elseB areB
    generalize (h.n == 0) = b1
    generalize (h.t.toList == []) = b2
    generalize decide (kids.len = 0) = b3
    rcases kinds h.k with e | e | e | e | e | e | e | e | ⟨k0,k1,k2,k3,k4,k5,k6,k7⟩
    · rw [e,hr]; cases z <;> cases b1 <;> cases b2 <;> cases b3 <;> simp
    · rw [e]; cases z <;> cases b1 <;> cases b2 <;> cases b3 <;> simp
    · rw [e]; cases z <;> cases b1 <;> cases b2 <;> cases b3 <;> simp
    · rw [e]; cases z <;> cases b1 <;> cases b2 <;> cases b3 <;> simp
    · rw [e]; cases z <;> cases b1 <;> cases b2 <;> cases b3 <;> simp
    · rw [e]; cases z <;> cases b1 <;> cases b2 <;> cases b3 <;> simp
    · rw [e]; cases z <;> cases b1 <;> cases b2 <;> cases b3 <;> simp [Bool.and_assoc,Bool.and_comm,Bool.and_left_comm]
    · rw [e]; cases z <;> cases b1 <;> cases b2 <;> cases b3 <;> simp [Bool.and_assoc,Bool.and_comm,Bool.and_left_comm]
    · rw [beq_eq_false_iff_ne] at k0 k1 k2 k3 k4 k5 k6 k7
      simp [k0,k1,k2,k3,k4,k5,k6,k7]
theorem doc_nokids {nm : ByteArray → Bool} {h : Hd} {k : Fr} (hd : docB nm h k.len (lastK k) = true) (h4 : h.k ≤ 4) : k = .nil:=by
  unfold docB at hd
  rw [Bool.and_eq_true,Bool.and_eq_true] at hd
  obtain ⟨⟨-,h2⟩,h3⟩:=hd
  have hk : k.len = 0:=by
    unfold ronlyB at h2
    unfold rkindB at h3
    rcases kinds h.k with e | e | e | e | e | e | e | e | ⟨k0,k1,k2,k3,k4,k5,k6,k7⟩
    all_goals try (rw [e] at h4; omega)
    · rw [e] at h2; simp at h2; exact h2.2
    · rw [e] at h2; simp at h2; exact h2.2
    · rw [e] at h2; simp at h2; exact h2.2
    · rw [e] at h2; simp at h2; exact h2.2
    · rw [e] at h2; simp at h2; exact h2.2
    · rw [beq_eq_false_iff_ne] at k0 k1 k2 k3 k4 k5 k6 k7
      simp [k0,k1,k2,k3,k4,k5,k6,k7] at h3
  cases k with
  | nil=>rfl
  | cons x y z=>exact absurd hk (by show ¬ z.len + 1 = 0; omega)
def LmF : Fr → Prop
  | .nil=>True
  | .cons h k r=>Lm h.xs∧LmF k∧LmF r
theorem LmF.of_ok : ∀ {fr : Fr},fr.Ok → LmF fr:=by
  intro fr
  induction fr with
  | nil=>intro _; exact trivial
  | cons h k r ihk ihr=>intro ho; exact ⟨ho.1.lm,ihk ho.2.1,ihr ho.2.2⟩
theorem rrD_of (nm : ByteArray → Bool) (h : Hd) (k : Fr) (left deep : Int) (hx : Lm h.xs) (h0 : 0 ≤ deep) (h60 : deep ≤ 60)
    (ih : ∀ l,0 ≤ l → deep + 1 ≤ 60 → rrF nm l (deep + 1) k = if rightF nm (60 - (deep + 1)) k = true∧(k.nodes : Int) ≤ l then l - k.nodes else -1) :
    rrD nm left deep h k = if rightK nm (60 - deep) h k (rightF nm (60 - deep - 1) k) = true∧((k.nodes + 1 : Nat) : Int) ≤ left then left - ((k.nodes + 1 : Nat) : Int) else -1:=by
  rw [rightK_doc nm _ h k _ hx]
  unfold rrD
  cases hd : docB nm h k.len (lastK k)
  · rw [if_pos (.inr rfl),if_neg (by simp)]
  · rw [Bool.true_and]
    by_cases hl : left < 1
    · rw [if_pos (.inl (.inl hl)),if_neg (by omega)]
    · by_cases h4 : h.k ≤ 4
      · rw [if_neg (by simp; omega)]
        obtain rfl:=doc_nokids hd h4
        show (if left - 1 < 0 then -1 else left - 1) = _
        rw [if_neg (by omega),if_pos ⟨by simp [h4],by show ((0 + 1 : Nat) : Int) ≤ left; omega⟩]
        show left - 1 = left - ((0 + 1 : Nat) : Int)
        omega
      · rw [show decide (h.k ≤ 4) = false from decide_eq_false h4,Bool.false_or]
        by_cases h59 : 59 < deep
        · rw [if_pos (.inl (.inr (.inr ⟨by omega,h59⟩))),if_neg (by rw [show decide (0 < 60 - deep) = false from decide_eq_false (by omega)]; simp)]
        · rw [if_neg (by simp; omega),ih _ (by omega) (by omega),show (60 : Int) - (deep + 1) = 60 - deep - 1 by omega,show decide (0 < 60 - deep) = true from decide_eq_true (by omega),Bool.true_and]
          by_cases hq : rightF nm (60 - deep - 1) k = true∧(k.nodes : Int) ≤ left - 1
          · rw [if_pos hq,if_neg (by omega),if_pos ⟨hq.1,by omega⟩]
            omega
          · rw [if_neg hq,if_pos (by decide),if_neg (fun hh=>hq ⟨hh.1,by omega⟩)]
theorem rrF_of (nm : ByteArray → Bool) : ∀ (fr : Fr) (left deep : Int),LmF fr → 0 ≤ left → 0 ≤ deep → deep ≤ 60 →
    rrF nm left deep fr = if rightF nm (60 - deep) fr = true∧(fr.nodes : Int) ≤ left then left - fr.nodes else -1:=by
  intro fr
  induction fr with
  | nil =>
    intro left deep _ h0 _ _
    rw [if_pos ⟨rfl,by show ((0 : Nat) : Int) ≤ left; omega⟩]
    show left = left - ((0 : Nat) : Int)
    omega
  | cons h k r ihk ihr =>
    intro left deep hl h0 hd0 hd1
    have hs:=rrD_of nm h k left deep hl.1 hd0 hd1 fun l h1 h2=>ihk l (deep + 1) hl.2.1 h1 (by omega) h2
    rw [rr_cons,hs]
    have hn : ((Fr.cons h k r).nodes : Int) = ((k.nodes + 1 : Nat) : Int) + (r.nodes : Int):=by
      show ((k.nodes + 1 + r.nodes : Nat) : Int) = _
      omega
    have hf : rightF nm (60 - deep) (.cons h k r) = (rightK nm (60 - deep) h k (rightF nm (60 - deep - 1) k) && rightF nm (60 - deep) r):=rfl
    rw [hn,hf]
    generalize rightK nm (60 - deep) h k (rightF nm (60 - deep - 1) k) = q
    by_cases hq : q = true∧((k.nodes + 1 : Nat) : Int) ≤ left
    · rw [if_pos hq,if_neg (by omega),ihr _ _ hl.2.2 (by omega) hd0 hd1,hq.1,Bool.true_and]
      by_cases hr : rightF nm (60 - deep) r = true∧(r.nodes : Int) ≤ left - ((k.nodes + 1 : Nat) : Int)
      · rw [if_pos hr,if_pos ⟨hr.1,by omega⟩]
        omega
      · rw [if_neg hr,if_neg fun hh=>hr ⟨hh.1,by omega⟩]
    · rw [if_neg hq,if_pos (by decide),if_neg]
      intro hh
      rw [Bool.and_eq_true] at hh
      exact hq ⟨hh.1.1,by omega⟩
theorem rrD_right (nm : ByteArray → Bool) (h : Hd) (k : Fr) (hx : Lm h.xs) (hk : LmF k) : decide (0 ≤ rrD nm 3000 0 h k) = rightD nm h k:=by
  rw [rrD_of nm h k 3000 0 hx (by decide) (by decide) fun l h1 _=>rrF_of nm k l (0 + 1) hk h1 (by decide) (by decide)]
  unfold rightD
  have e1 : (60 : Int) - 0 = 60:=by decide
  have e2 : (60 : Int) - 0 - 1 = 59:=by decide
  rw [e1,show (60 : Int) - 1 = 59 by decide]
  have hc : decide (cnt 3001 1 k ≤ 3000) = decide (((k.nodes + 1 : Nat) : Int) ≤ 3000):=by
    rw [decide_eq_decide]
    constructor
    · intro h1
      rcases Int.lt_or_le 3001 (1 + (k.nodes : Int)) with h2 | h2
      · have:=cnt_more k 3001 1 (by omega); omega
      · rw [cnt_nodes k 3001 1 h2] at h1; omega
    · intro h1
      rw [cnt_nodes k 3001 1 (by omega)]
      omega
  rw [hc]
  generalize rightK nm 60 h k (rightF nm 59 k) = q
  by_cases h1 : ((k.nodes + 1 : Nat) : Int) ≤ 3000
  · rw [decide_eq_true h1,Bool.true_and]
    cases q
    · rw [if_neg (by simp)]; rfl
    · rw [if_pos ⟨rfl,h1⟩]
      exact decide_eq_true (by omega)
  · rw [if_neg (fun hh=>h1 hh.2),decide_eq_false h1,Bool.false_and]
    rfl
theorem rrF_bd (nm : ByteArray → Bool) : ∀ (fr : Fr) (left deep : Int),-1 ≤ left → -1 ≤ rrF nm left deep fr∧rrF nm left deep fr ≤ left:=by
  intro fr
  induction fr with
  | nil=>intro left deep h; exact ⟨h,Int.le_refl _⟩
  | cons h k r ihk ihr =>
    intro left deep hl
    unfold rrF
    split
    · omega
    · rename_i h1
      split
      · omega
      · rename_i h2
        have h3 : ¬ left < 1:=fun h=>h1 (.inl (.inl h))
        have h4:=ihk (left - 1) (deep + 1) (by omega)
        have h5:=ihr (rrF nm (left - 1) (deep + 1) k) deep (by omega)
        omega
theorem rrD_bd (nm : ByteArray → Bool) (h : Hd) (k : Fr) (left deep : Int) (hl : -1 ≤ left) : -1 ≤ rrD nm left deep h k∧rrD nm left deep h k ≤ left:=by
  unfold rrD
  split
  · omega
  · rename_i h1
    split
    · omega
    · rename_i h2
      have h3 : ¬ left < 1:=fun h=>h1 (.inl (.inl h))
      have h4:=rrF_bd nm k (left - 1) (deep + 1) (by omega)
      omega
end LM
namespace LM
theorem rtsame_any {w : World} {h h' : Hd} (ha : NumOk w h.fl h.f h.s h.A h.xs.length h.c) (hb : NumOk w h'.fl h'.f h'.s h'.A h'.xs.length h'.c) (hx : rightN h.fl h.f h.s h.xs = true) (hx' : rightN h'.fl h'.f h'.s h'.xs = true) (rx : Rd w h.A h.xs) (rx' : Rd w h'.A h'.xs) (lx : Lm h.xs) (lx' : Lm h'.xs) (cx : h.xs.length ≤ h.c∧h.c ≤ 9223372036854775807) (cx' : h'.xs.length ≤ h'.c∧h'.c ≤ 9223372036854775807) :
    CallB w 33 #[numA h.fl h.f h.s h.A h.xs.length h.c,numA h'.fl h'.f h'.s h'.A h'.xs.length h'.c] (.bool (numS h h')):=by
  obtain ⟨k,n,fl,f,s,A,xs,c,t,B,cap⟩:=h
  obtain ⟨k',n',fl',f',s',A',xs',c',t',B',cap'⟩:=h'
  simp only at *
  unfold numS
  simp only
  cases fl <;> cases fl'
  · simp only [Bool.false_eq_true,if_false]
    unfold rightN at hx hx'
    rw [if_neg (by decide),Bool.and_eq_true] at hx hx'
    have h1:=intV_of hx.2 rx lx cx.1 cx.2
    have h2:=intV_of hx'.2 rx' lx' cx'.1 cx'.2
    exact fun W hW=>rtsame_ii f f' s A xs.length c s' A' xs'.length c' W _ (fun V hV=>rsame2_int ((h1.1.keep hW).keep hV).toR ((h2.1.keep hW).keep hV).toR (fit_of h1.2))
  · simp only [Bool.false_eq_true,if_false,if_true]
    exact fun W _=>rtsame_if f f' s A xs.length c s' A' xs'.length c' W
  · simp only [Bool.false_eq_true,if_false,if_true]
    exact fun W _=>rtsame_fi f f' s A xs.length c s' A' xs'.length c' W
  · simp only [if_true]
    exact fun W _=>rtsame_ff f f' s A xs.length c s' A' xs'.length c' W _ (fun V=>rsame_flo f f' V ha.1 hb.1)
theorem rdsame_go (h h' : Hd) (kids kids' : Fr) (sub : Bool) (w : World)
    (hT : CallB w 33 #[numA h.fl h.f h.s h.A h.xs.length h.c,numA h'.fl h'.f h'.s h'.A h'.xs.length h'.c] (.bool (numS h h')))
    (hE : CallB w 34 #[.slice h.B kids.len h.cap,.slice h'.B kids'.len h'.cap] (.bool sub)) :
    Calls Tryz.prog 13 #[datA h kids.len,datA h' kids'.len] w fun e w'=>e = .returned (.bool (headS h h' && sub))∧Below w.heap.size w w':=by
  obtain ⟨W0,hW0⟩ : ∃ W0,(w.alloc (datO h kids.len)).alloc (datO h' kids'.len) = W0:=⟨_,rfl⟩
  have hb0 : Below w.heap.size w W0:=by rw [← hW0]; exact ((Below.refl _ w).alloc (Nat.le_refl _) _).alloc (by simp) _
  have hO : Obs W0 [(w.heap.size + 1,datO h' kids'.len),(w.heap.size,datO h kids.len)]:=by
    rw [← hW0]
    have h1:=(Obs.nil.new (w:=w) (datO h kids.len)).new (datO h' kids'.len)
    simp only [World.size_alloc] at h1
    exact h1
  obtain ⟨x0,x1,x2,x3,x4,x5,x6,x7⟩:=C8.of_block hO.tl.hd
  obtain ⟨y0,y1,y2,y3,y4,y5,y6,y7⟩:=C8.of_block hO.hd
  have HW0:=Lib.hid hW0
  have HB0:=Lib.hid hb0
  have O0:=Lib.hid hO
  have HT:=Lib.hid hT
  have HE:=Lib.hid hE
  clear hW0 hb0 hO hT hE
  obtain ⟨b1,e1⟩ : ∃ b,(h.k == h'.k) = b:=⟨_,rfl⟩
  obtain ⟨b2,e2⟩ : ∃ b,(h.n == h'.n) = b:=⟨_,rfl⟩
  obtain ⟨b3,e3⟩ : ∃ b,(h.t.toList == h'.t.toList) = b:=⟨_,rfl⟩
  obtain ⟨b4,e4⟩ : ∃ b,numS h h' = b:=⟨_,rfl⟩
  have HQ : Hid (headS h h' = (b1 && b2 && b3 && b4)):=Lib.hid (by unfold headS; rw [e1,e2,e3,e4])
  rw [e4] at HT
  have f1 : (h.k != h'.k) = !b1:=by rw [← e1]; rfl
  have f2 : (h.n != h'.n) = !b2:=by rw [← e2]; rfl
  have f3 : (h.t.toList != h'.t.toList) = !b3:=by rw [← e3]; rfl
  clear e4
  cases b1
  · go_enter Tryz.func13,Tryz.ntmps13
    go_wp2_with (fail)
    go_ret
    exact ⟨by rw [HQ.out]; rfl,HW0.out ▸ HB0.out⟩
  cases b2
  · go_enter Tryz.func13,Tryz.ntmps13
    go_wp2_with (fail)
    go_ret
    exact ⟨by rw [HQ.out]; rfl,HW0.out ▸ HB0.out⟩
  cases b3
  · go_enter Tryz.func13,Tryz.ntmps13
    go_wp2_with (fail)
    go_ret
    exact ⟨by rw [HQ.out]; rfl,HW0.out ▸ HB0.out⟩
  go_enter Tryz.func13,Tryz.ntmps13
  go_wp2_with (fail)
  rw [HW0.out]
  refine (HT.out _ HB0.out).mono ?_
  rintro e w1 ⟨rfl,hb1⟩
  have HB1:=Lib.hid (bel_trans (B:=w.heap.size) HB0.out hb1)
  obtain ⟨u0,u1,u2,u3,u4,u5,u6,u7⟩:=C8.of_block (O0.out.below hb1).tl.hd
  obtain ⟨v0,v1,v2,v3,v4,v5,v6,v7⟩:=C8.of_block (O0.out.below hb1).hd
  clear hb1 x0 x1 x2 x3 x4 x5 x6 x7 y0 y1 y2 y3 y4 y5 y6 y7
  cases b4
  · go_wp2_with (fail)
    go_ret
    exact ⟨by rw [HQ.out]; rfl,HB1.out⟩
  · go_wp2_with (fail)
    refine (HE.out _ HB1.out).mono ?_
    rintro e w2 ⟨rfl,hb2⟩
    have HB2:=Lib.hid (bel_trans (B:=w.heap.size) HB1.out hb2)
    clear hb2
    go_wp2_with (fail)
    go_ret
    exact ⟨by rw [HQ.out]; rfl,HB2.out⟩
theorem rdlist_any (kids kids' : Fr) (B B' : Option Addr) (cap cap' b off b' off' : Nat) (w : World) (hB : 0 < kids.len → B = some ⟨b,off,none⟩) (hB' : 0 < kids'.len → B' = some ⟨b',off',none⟩) (hF : FAt w b off kids) (hF' : FAt w b' off' kids') (hc1 : kids.len ≤ cap) (hc2 : cap ≤ 9223372036854775807) (hc1' : kids'.len ≤ cap') (hc2' : cap' ≤ 9223372036854775807)
    (hcl : ∀ hh k hh' k' j r r',kids.drop j = .cons hh k r → kids'.drop j = .cons hh' k' r' → ∀ W,Below w.heap.size w W → DatV W hh k → DatV W hh' k' → Calls Tryz.prog 13 #[datA hh k.len,datA hh' k'.len] W fun e w'=>e = .returned (.bool (headS hh hh' && sameF k k'))∧Below W.heap.size W w') :
    Calls Tryz.prog 34 #[.slice B kids.len cap,.slice B' kids'.len cap'] w fun e w'=>e = .returned (.bool (sameF kids kids'))∧Below w.heap.size w w':=by
  by_cases hl : kids.len = kids'.len
  · rcases Nat.eq_zero_or_pos kids.len with h0 | hpos
    · have hk : ∀ fr : Fr,fr.len = 0 → fr = .nil:=fun fr h=>by
        cases fr with
        | nil=>rfl
        | cons x y z=>have h3 : z.len + 1 = 0:=h; omega
      obtain rfl:=hk kids h0
      obtain rfl:=hk kids' (by omega)
      show Calls Tryz.prog 34 #[.slice B 0 cap,.slice B' 0 cap'] w fun e w'=>e = .returned (.bool true)∧Below w.heap.size w w'
      clear hcl hF hB hF' hB' hl h0 hc1 hc1' hk
      go_enter Tryz.func34,Tryz.ntmps34
      go_wp2_with (fail)
      go_loopg [13] 0 (fun kk i wr=>wr = w∧i = .int .i64 0)
      case atStart=>exact ⟨rfl,rfl⟩
      case round =>
        obtain ⟨rfl,rfl⟩:=hrel
        go_wp2_with (fail)
        go_ret
        exact ⟨rfl,Below.refl _ _⟩
    · obtain rfl:=hB hpos
      obtain rfl:=hB' (by omega)
      have HF:=Lib.hid hF
      have HF':=Lib.hid hF'
      have HCL:=Lib.hid hcl
      have HL:=Lib.hid hl
      have g1 : ((kids.len : Int) != (kids'.len : Int)) = false:=by rw [hl]; simp
      clear hF hF' hcl hB hB' hl
      go_enter Tryz.func34,Tryz.ntmps34
      go_wp2_with (fail)
      go_loopg [13] kids.len (fun kk i wr=>Below w.heap.size w wr∧∃ j : Nat,j ≤ kids.len∧kk = kids.len - j∧i = .int .i64 (j : Int)∧sameF (kids.drop j) (kids'.drop j) = sameF kids kids')
      case atStart=>exact ⟨Below.refl _ _,0,Nat.zero_le _,rfl,rfl,rfl⟩
      case round =>
        obtain ⟨hbr,j,hj,rfl,rfl,hrf⟩:=hrel
        have HBR:=Lib.hid hbr
        clear hbr
        by_cases hjl : j < kids.len
        · obtain ⟨hh,k,r,hdr,hdr1⟩:=Fr.cons_of_lt hjl
          have hjl' : j < kids'.len:=by have:=HL.out; omega
          obtain ⟨hh',k',r',hdr',hdr1'⟩:=Fr.cons_of_lt hjl'
          rw [hdr,hdr'] at hrf
          obtain ⟨hbl,⟨x0,x1,x2,x3,x4,x5,x6,x7⟩,D⟩:=counted_item (FAt.below HBR.out _ _ _ HF.out) hdr
          obtain ⟨hbl',hC',D'⟩:=counted_item (FAt.below HBR.out _ _ _ HF'.out) hdr'
          obtain ⟨y0,y1,y2,y3,y4,y5,y6,y7⟩:=hC'
          have CL:=Lib.hid fun W (hW : Below wr.heap.size wr W)=>HCL.out hh k hh' k' j r r' hdr hdr' W (bel_trans (B:=w.heap.size) HBR.out hW) (D.below hW) (D'.below hW)
          have hrf2 : (headS hh hh' && sameF k k' && sameF r r') = sameF kids kids':=hrf
          obtain ⟨q,hq⟩ : ∃ q,(headS hh hh' && sameF k k') = q:=⟨_,rfl⟩
          rw [hq] at CL hrf2
          have HRF:=Lib.hid hrf2
          have HDR:=Lib.hid hdr1
          have HDR':=Lib.hid hdr1'
          clear hrf hdr hdr1 D hrf2 hq hdr' hdr1' D'
          go_wp2_with (fail)
          go_region_with (go_at_call 13; (first | refine (CL.out _ (Below.refl _ _)).mono ?_ | refine (CL.out _ (below_drewN (Below.refl _ _) _)).mono ?_ | refine (CL.out _ (Below.refl _ _).drew).mono ?_); rintro e w3 ⟨rfl,hb3⟩; have HB3 : Hid (Below w.heap.size w w3):=Lib.hid (by first | exact bel_trans (B:=w.heap.size) HBR.out hb3 | exact bel_trans (B:=w.heap.size) HBR.out.drew hb3); clear hb3)
          all_goals
            cases q
            · go_wp2_with (fail)
              go_ret
              exact ⟨by rw [← HRF.out]; simp,HB3.out⟩
            · go_wp2_with (fail)
              go_roundg (kids.len - (j + 1))
              case measure=>omega
              case rel=>exact ⟨HB3.out,j + 1,by omega,rfl,by go_num,by rw [HDR.out,HDR'.out]; exact HRF.out⟩
        · have hje : j = kids.len:=by omega
          subst hje
          have hnil : ∀ fr : Fr,fr.drop fr.len = .nil:=fun fr=>by
            have h1:=Fr.len_drop fr.len fr
            cases h2 : fr.drop fr.len with
            | nil=>rfl
            | cons x y z=>rw [h2] at h1; have h3 : z.len + 1 = fr.len - fr.len:=h1; omega
          have hl:=HL.out
          rw [hnil kids,hl,hnil kids'] at hrf
          have HR : Hid (true = sameF kids kids'):=Lib.hid hrf
          clear hrf hnil hl
          go_wp2_with (fail)
          go_ret
          exact ⟨by rw [← HR.out]; rfl,HBR.out⟩
  · have g1 : ((kids.len : Int) != (kids'.len : Int)) = true:=by rw [bne_iff_ne]; omega
    rw [sameF_len _ _ hl]
    clear hcl hF hB hF' hB' hl
    go_enter Tryz.func34,Tryz.ntmps34
    go_wp2_with (fail)
    go_ret
    exact ⟨rfl,Below.refl _ _⟩
theorem rdsame_any : ∀ (m : Nat) (kids kids' : Fr),kids.size < m → kids.Ok → kids'.Ok → NumsR kids → NumsR kids' → ∀ (h h' : Hd) (w : World),DatV w h kids → DatV w h' kids' → h.Ok kids.len → h'.Ok kids'.len → rightN h.fl h.f h.s h.xs = true → rightN h'.fl h'.f h'.s h'.xs = true →
    Calls Tryz.prog 13 #[datA h kids.len,datA h' kids'.len] w fun e w'=>e = .returned (.bool (headS h h' && sameF kids kids'))∧Below w.heap.size w w':=by
  intro m
  induction m with
  | zero=>intro kids _ h; omega
  | succ m ih =>
    intro kids kids' hsz hok hok' hn hn' h h' w hd hd' hho hho' hr hr'
    refine rdsame_go h h' kids kids' _ w (rtsame_any (numOk_of hr hho.f hd.xs hho.lm hho.c.1 hho.c.2) (numOk_of hr' hho'.f hd'.xs hho'.lm hho'.c.1 hho'.c.2) hr hr' hd.xs hd'.xs hho.lm hho'.lm hho.c hho'.c) fun W hW=>?_
    obtain ⟨b,off,hB,hF⟩:=(hd.below hW).items
    obtain ⟨b',off',hB',hF'⟩:=(hd'.below hW).items
    refine rdlist_any kids kids' h.B h'.B h.cap h'.cap b off b' off' W hB hB' hF hF' hho.cap.1 hho.cap.2 hho'.cap.1 hho'.cap.2 fun hh k hh' k' j r r' e1 e2 W2 hW2 hD hD'=>?_
    have o1:=Fr.Ok.drop j hok
    have o2:=Fr.Ok.drop j hok'
    have n1:=NumsR.drop j hn
    have n2:=NumsR.drop j hn'
    rw [e1] at o1 n1
    rw [e2] at o2 n2
    exact ih k k' (by have:=size_item e1; omega) o1.2.1 o2.2.1 n1.2.1 n2.2.1 hh hh' W2 hD hD' o1.1 o2.1 n1.1 n2.1
end LM
namespace LM
attribute [local go_sem] run_store_flt
theorem kind_facts (k c : Int) (e : k = c) : ∀ j : Int,(k == j) = decide (c = j):=fun j=>by rw [e]; rfl
theorem ronly_any (h : Hd) (n : Nat) (z : Bool) (w : World) (hT : CallB w 33 #[numA h.fl h.f h.s h.A h.xs.length h.c,numA false 0 false none 0 0] (.bool z)) :
    Calls Tryz.prog 58 #[datA h n] w fun e w'=>e = .returned (.bool (ronlyB h n z))∧Below w.heap.size w w':=by
  obtain ⟨W0,hW0,hb0,ho,hs0⟩:=dat_block w h n
  obtain ⟨bn,hbn⟩ : ∃ b,(h.n == 0) = b:=⟨_,rfl⟩
  obtain ⟨bt,hbt⟩ : ∃ b,(h.t.toList == []) = b:=⟨_,rfl⟩
  obtain ⟨bi,hbi⟩ : ∃ b,((n : Int) == 0) = b:=⟨_,rfl⟩
  have hbj : decide (n = 0) = bi:=by
    rw [← hbi,Bool.eq_iff_iff,beq_iff_eq,decide_eq_true_eq]
    omega
  obtain ⟨q,hq⟩ : ∃ q,ronlyB h n z = q:=⟨_,rfl⟩
  rw [hq]
  unfold ronlyB at hq
  rw [hbn,hbt,hbj] at hq
  have HQ:=Lib.hid hq
  have HT:=Lib.hid (hT W0 hb0)
  have HW0:=Lib.hid hW0
  have HB0:=Lib.hid hb0
  have BLK : Hid (∀ W,Below W0.heap.size W0 W → C8 W w.heap.size 0 h n):=Lib.hid fun W hW=>C8.of_block ((hW.block _ hs0).trans ho)
  have hX:=C8.of_block ho
  clear hW0 hb0 ho hs0 hT hq hbj
  rcases kinds h.k with e | e | e | e | e | e | e | e | ⟨k0,k1,k2,k3,k4,k5,k6,k7⟩
  all_goals
    try rw [e] at HQ
    try (have k0:=kind_facts _ _ e 0)
    try (have k1:=kind_facts _ _ e 1)
    try (have k2:=kind_facts _ _ e 2)
    try (have k3:=kind_facts _ _ e 3)
    try (have k4:=kind_facts _ _ e 4)
    try simp only [Int.reduceEq,decide_true,decide_false] at k0 k1 k2 k3 k4
    try clear e
    obtain ⟨x0,x1,x2,x3,x4,x5,x6,x7⟩:=hX
    go_enter Tryz.func58,Tryz.ntmps58
    go_wp2_with (fail)
    rw [HW0.out]
    refine HT.out.mono ?_
    rintro e9 w1 ⟨rfl,hb1⟩
    have HB1:=Lib.hid (bel_trans (B:=w.heap.size) HB0.out hb1)
    obtain ⟨y0,y1,y2,y3,y4,y5,y6,y7⟩:=BLK.out _ hb1
    clear hb1 x0 x1 x2 x3 x4 x5 x6 x7
    cases z <;> cases bn <;> cases bt <;> cases bi
    all_goals
      go_wp2_with (fail)
      go_ret
      exact ⟨by rw [← HQ.out]; first | rfl | (rw [beq_eq_false_iff_ne] at k0 k1 k2 k3 k4; simp [k0,k1,k2,k3,k4]),HB1.out⟩
end LM
namespace LM
attribute [local go_sem] run_store_flt
theorem rkind_any (nm : ByteArray → Bool) (h : Hd) (n b off : Nat) (hl : Hd) (m : Nat) (w : World) (hn : n ≤ 9223372036854775807)
    (hR : CallB w 57 #[numA h.fl h.f h.s h.A h.xs.length h.c] (.bool (rightN h.fl h.f h.s h.xs)))
    (hN : h.k = 4 → CallB w 92 #[.string h.t] (.bool (nm h.t))) (ht : h.t.size ≤ 1000000)
    (hB : 0 < n → h.B = some ⟨b,off,none⟩) (hc : 0 < n → C8 w b (off + (n - 1) * 8) hl m) :
    Calls Tryz.prog 59 #[datA h n] w fun e w'=>e = .returned (.bool (rkindB nm h n hl.k))∧Below w.heap.size w w':=by
  obtain ⟨W0,hW0,hb0,ho,hs0⟩:=dat_block w h n
  obtain ⟨q,hq⟩ : ∃ q,rkindB nm h n hl.k = q:=⟨_,rfl⟩
  rw [hq]
  unfold rkindB at hq
  have HQ:=Lib.hid hq
  have HR:=Lib.hid (hR W0 hb0)
  have HW0:=Lib.hid hW0
  have HB0:=Lib.hid hb0
  obtain ⟨x0,x1,x2,x3,x4,x5,x6,x7⟩:=C8.of_block ho
  have HC:=Lib.hid fun (h : 0 < n)=>(hc h).keep hb0 (spot_none (hc h).c0).2
  have HN:=Lib.hid fun (e : h.k = 4)=>hN e W0 hb0
  clear hW0 hb0 ho hs0 hR hq hN hc
  rcases kinds h.k with e | e | e | e | e | e | e | e | ⟨k0,k1,k2,k3,k4,k5,k6,k7⟩
  · have k0 : (h.k == 0) = true:=by rw [e]; rfl
    rw [e] at HQ
    clear e
    go_enter Tryz.func59,Tryz.ntmps59
    go_wp2_with (fail)
    rw [HW0.out]
    go_wp2_with (fail)
    refine HR.out.mono ?_
    rintro e9 w1 ⟨rfl,hb1⟩
    have HB1:=Lib.hid (bel_trans (B:=w.heap.size) HB0.out hb1)
    clear hb1
    go_wp2_with (fail)
    go_ret
    exact ⟨by rw [← HQ.out]; rfl,HB1.out⟩
  · have k0 : (h.k == 0) = false:=by rw [e]; rfl
    have k1 : (h.k == 1) = true:=by rw [e]; rfl
    rw [e] at HQ
    clear e
    obtain ⟨b1,hb1⟩ : ∃ b,(h.n == 0) = b:=⟨_,rfl⟩
    obtain ⟨b2,hb2⟩ : ∃ b,(h.n == 1) = b:=⟨_,rfl⟩
    rw [hb1,hb2] at HQ
    cases b1 <;> cases b2
    all_goals
      go_enter Tryz.func59,Tryz.ntmps59
      go_wp2_with (fail)
      rw [HW0.out]
      go_wp2_with (fail)
      go_ret
      exact ⟨by rw [← HQ.out]; rfl,HB0.out⟩
  · have k0 : (h.k == 0) = false:=by rw [e]; rfl
    have k1 : (h.k == 1) = false:=by rw [e]; rfl
    have k2 : (h.k == 2) = true:=by rw [e]; rfl
    rw [e] at HQ
    clear e
    have S1:=Lib.hid fun W=>rsign_any h.n W
    go_enter Tryz.func59,Tryz.ntmps59
    go_wp2_with (fail)
    rw [HW0.out]
    go_wp2_with (fail)
    refine (S1.out _).mono ?_
    rintro e9 w1 ⟨rfl,rfl⟩
    go_wp2_with (fail)
    go_ret
    exact ⟨by rw [← HQ.out]; rfl,HB0.out⟩
  · have k0 : (h.k == 0) = false:=by rw [e]; rfl
    have k1 : (h.k == 1) = false:=by rw [e]; rfl
    have k2 : (h.k == 2) = false:=by rw [e]; rfl
    have k3 : (h.k == 3) = true:=by rw [e]; rfl
    rw [e] at HQ
    clear e
    have hsg:=rsigns_any h.t ht W0
    rw [signs_all] at hsg
    have hts : Lib.runeCount h.t ≤ 1000000:=Nat.le_trans (Lib.runeCountFrom_le _ _ _) ht
    obtain ⟨rc,hrc⟩ : ∃ rc,Lib.runeCount h.t = rc:=⟨_,rfl⟩
    obtain ⟨vd,hvd⟩ : ∃ vd,Lib.validD h.t.data.toList = vd:=⟨_,rfl⟩
    have HT : Hid (q = (vd && decide (rc ≤ 400))):=Lib.hid (by rw [← HQ.out,← hvd,← hrc]; rfl)
    rw [hrc,hvd] at hsg
    rw [hrc] at hts
    obtain ⟨p,hp⟩ : ∃ p,decide (rc ≤ 400) = p:=⟨_,rfl⟩
    have hpi : decide ((rc : Int) ≤ 400) = p:=by rw [← hp,decide_eq_decide]; omega
    rw [hp] at HT
    cases vd
    · have SG:=Lib.hid hsg
      simp only [Bool.false_eq_true,if_false,Option.getD_none,Option.isSome_none] at SG
      clear hsg hvd hrc
      go_enter Tryz.func59,Tryz.ntmps59
      go_wp2_with (fail)
      rw [HW0.out]
      go_wp2_with (fail)
      refine SG.out.mono ?_
      rintro e9 w1 ⟨⟨A,c,rfl⟩,hb1⟩
      have HB1:=Lib.hid (bel_trans (B:=w.heap.size) HB0.out hb1)
      clear hb1
      go_wp2_with (fail)
      go_ret
      exact ⟨by rw [HT.out]; rfl,HB1.out⟩
    · have SG:=Lib.hid hsg
      simp only [if_true,Option.getD_some,Option.isSome_some] at SG
      clear hsg hvd hrc
      cases p
      all_goals
        go_enter Tryz.func59,Tryz.ntmps59
        go_wp2_with (fail)
        rw [HW0.out]
        go_wp2_with (fail)
        refine SG.out.mono ?_
        rintro e9 w1 ⟨⟨A,c,rfl⟩,hb1⟩
        have HB1:=Lib.hid (bel_trans (B:=w.heap.size) HB0.out hb1)
        clear hb1
        go_wp2_with (fail)
        go_ret
        exact ⟨by rw [HT.out]; rfl,HB1.out⟩
  · have k0 : (h.k == 0) = false:=by rw [e]; rfl
    have k1 : (h.k == 1) = false:=by rw [e]; rfl
    have k2 : (h.k == 2) = false:=by rw [e]; rfl
    have k3 : (h.k == 3) = false:=by rw [e]; rfl
    have k4 : (h.k == 4) = true:=by rw [e]; rfl
    have N1:=Lib.hid (HN.out e)
    rw [e] at HQ
    clear e
    go_enter Tryz.func59,Tryz.ntmps59
    go_wp2_with (fail)
    rw [HW0.out]
    go_wp2_with (fail)
    refine N1.out.mono ?_
    rintro e9 w1 ⟨rfl,hb1⟩
    have HB1:=Lib.hid (bel_trans (B:=w.heap.size) HB0.out hb1)
    clear hb1
    go_wp2_with (fail)
    go_ret
    exact ⟨by rw [← HQ.out]; rfl,HB1.out⟩
  · have k0 : (h.k == 0) = false:=by rw [e]; rfl
    have k1 : (h.k == 1) = false:=by rw [e]; rfl
    have k2 : (h.k == 2) = false:=by rw [e]; rfl
    have k3 : (h.k == 3) = false:=by rw [e]; rfl
    have k4 : (h.k == 4) = false:=by rw [e]; rfl
    have k5 : (h.k == 5) = true:=by rw [e]; rfl
    rw [e] at HQ
    clear e
    go_enter Tryz.func59,Tryz.ntmps59
    go_wp2_with (fail)
    rw [HW0.out]
    go_wp2_with (fail)
    go_ret
    exact ⟨by rw [← HQ.out]; rfl,HB0.out⟩
  · have k0 : (h.k == 0) = false:=by rw [e]; rfl
    have k1 : (h.k == 1) = false:=by rw [e]; rfl
    have k2 : (h.k == 2) = false:=by rw [e]; rfl
    have k3 : (h.k == 3) = false:=by rw [e]; rfl
    have k4 : (h.k == 4) = false:=by rw [e]; rfl
    have k5 : (h.k == 5) = false:=by rw [e]; rfl
    have k6 : (h.k == 6) = true:=by rw [e]; rfl
    rw [e] at HQ
    clear e
    by_cases h2 : 2 ≤ n
    · have hBe:=hB (by omega)
      obtain ⟨y0,y1,y2,y3,y4,y5,y6,y7⟩:=HC.out (by omega)
      have d1 : decide (2 ≤ (n : Int)) = true:=decide_eq_true (by omega)
      have d3 : decide (2 ≤ n) = true:=decide_eq_true h2
      have w1 : IntKind.i64.wrap ((n : Int) - 1) = ((n - 1 : Nat) : Int):=by rw [IntKind.wrap_i64]; omega
      have d2 : decide (((n - 1 : Nat) : Int) < n) = true:=decide_eq_true (by omega)
      have hnm : n - 1 < n:=by omega
      have HT : Hid (q = (hl.k != 5 && hl.k != 6)):=Lib.hid (by rw [← HQ.out,d3]; rfl)
      obtain ⟨p,hp⟩ : ∃ p,n - 1 = p:=⟨_,rfl⟩
      rw [hp] at w1 y0 y1 y2 y3 y4 y5 y6 y7 d2 hnm
      have y9:=y0
      rw [← HW0.out] at y9
      dsimp only [datO] at y9
      rw [hBe] at y9
      clear hB hp x0 x1 x2 x3 x4 x5 x6 x7 y0 y1 y2 y3 y4 y5 y6 y7
      have HBW : Hid (Below w.heap.size w (w.alloc (datO h n))):=Lib.hid ((Below.refl _ w).alloc (Nat.le_refl _) _)
      dsimp only [datO] at HBW
      rw [hBe] at HBW
      go_enter Tryz.func59,Tryz.ntmps59
      go_wp2_with (fail)
      all_goals
        go_ret
        exact ⟨by rw [HT.out]; first | rfl | simp [*],HBW.out⟩
    · have d1 : decide (2 ≤ (n : Int)) = false:=decide_eq_false (by omega)
      have d3 : decide (2 ≤ n) = false:=decide_eq_false h2
      rw [d3] at HQ
      clear hB
      go_enter Tryz.func59,Tryz.ntmps59
      go_wp2_with (fail)
      rw [HW0.out]
      go_wp2_with (fail)
      go_ret
      exact ⟨by rw [← HQ.out]; rfl,HB0.out⟩
  · have k0 : (h.k == 0) = false:=by rw [e]; rfl
    have k1 : (h.k == 1) = false:=by rw [e]; rfl
    have k2 : (h.k == 2) = false:=by rw [e]; rfl
    have k3 : (h.k == 3) = false:=by rw [e]; rfl
    have k4 : (h.k == 4) = false:=by rw [e]; rfl
    have k5 : (h.k == 5) = false:=by rw [e]; rfl
    have k6 : (h.k == 6) = false:=by rw [e]; rfl
    have k7 : (h.k == 7) = true:=by rw [e]; rfl
    rw [e] at HQ
    clear e
    obtain ⟨p,hp⟩ : ∃ p,decide (n ≤ 200) = p:=⟨_,rfl⟩
    have hpi : decide ((n : Int) ≤ 200) = p:=by rw [← hp,decide_eq_decide]; omega
    rw [hp] at HQ
    go_enter Tryz.func59,Tryz.ntmps59
    go_wp2_with (fail)
    rw [HW0.out]
    go_wp2_with (fail)
    go_ret
    exact ⟨by rw [← HQ.out]; rfl,HB0.out⟩
  · have HF : Hid (q = false):=Lib.hid (by
      have j0:=k0; have j1:=k1; have j2:=k2; have j3:=k3; have j4:=k4; have j5:=k5; have j6:=k6; have j7:=k7
      rw [beq_eq_false_iff_ne] at j0 j1 j2 j3 j4 j5 j6 j7
      rw [← HQ.out,if_neg j0,if_neg j1,if_neg j2,if_neg j3,if_neg j4,if_neg j5,if_neg j6,if_neg j7])
    go_enter Tryz.func59,Tryz.ntmps59
    go_wp2_with (fail)
    rw [HW0.out]
    go_wp2_with (fail)
    go_ret
    exact ⟨by rw [HF.out]; rfl,HB0.out⟩
end LM
namespace LM
attribute [local go_sem] run_store_flt
def TxF : Fr → Prop
  | .nil=>True
  | .cons h k r=>h.t.size ≤ 1000000∧TxF k∧TxF r
theorem TxF.drop : ∀ (j : Nat) {fr : Fr},TxF fr → TxF (fr.drop j):=by
  intro j
  induction j with
  | zero=>intro fr h; exact h
  | succ j ih =>
    intro fr h
    cases fr with
    | nil=>exact h
    | cons hh k r=>exact ih h.2.2
abbrev zHd : Hd:=⟨0,0,false,0,false,none,[],0,⟨#[]⟩,none,0⟩
theorem numS_zero (h : Hd) : numS h zHd = zeroN h:=by
  unfold numS zeroN
  cases h.fl <;> rfl
theorem rgood_any (nm : ByteArray → Bool) : ∀ (m : Nat) (kids : Fr),kids.size < m → kids.Ok → TxF kids → ∀ (h : Hd) (left deep : Int) (w : World),DatV w h kids → h.Ok kids.len → h.t.size ≤ 1000000 →
    (∀ t,(h.k = 4∧t = h.t) ∨ SymIn t kids → CallB w 92 #[.string t] (.bool (nm t))) → -1 ≤ left → left ≤ 3000 → 0 ≤ deep → deep ≤ 1000 →
    Calls Tryz.prog 30 #[datA h kids.len,.int .i64 left,.int .i64 deep] w fun e w'=>e = .returned (.int .i64 (rrD nm left deep h kids))∧Below w.heap.size w w':=by
  intro m
  induction m with
  | zero=>intro kids h; omega
  | succ m ih =>
    intro kids hsz hok htx h left deep w hd hho hht hnm hl0 hl1 hd0 hd1
    obtain ⟨W0,hW0,hb0,ho,hs0⟩:=dat_block w h kids.len
    obtain ⟨b,off,hB,hF⟩:=(hd.below hb0).items
    obtain ⟨RES,hRES⟩ : ∃ RES,rrD nm left deep h kids = RES:=⟨_,rfl⟩
    rw [hRES]
    obtain ⟨rn,hrn⟩ : ∃ q,rightN h.fl h.f h.s h.xs = q:=⟨_,rfl⟩
    obtain ⟨on,hon⟩ : ∃ q,ronlyB h kids.len (zeroN h) = q:=⟨_,rfl⟩
    obtain ⟨kn,hkn⟩ : ∃ q,rkindB nm h kids.len (lastK kids) = q:=⟨_,rfl⟩
    have hdoc : docB nm h kids.len (lastK kids) = (rn && on && kn):=by unfold docB; rw [hrn,hon,hkn]
    unfold rrD at hRES
    rw [hdoc] at hRES
    have HRES:=Lib.hid hRES
    have RC:=Lib.hid fun W (hW : Below w.heap.size w W)=>rnright_any h.fl h.f h.s h.A h.c h.xs W (hd.xs.below hW) hho.lm hho.c.1 hho.c.2 hho.nA
    rw [hrn] at RC
    have OC : Hid (rn = true → ∀ W,Below w.heap.size w W → Calls Tryz.prog 58 #[datA h kids.len] W fun e w'=>e = .returned (.bool on)∧Below W.heap.size W w'):=Lib.hid fun hr W hW=>by
      have hr2 : rightN h.fl h.f h.s h.xs = true:=by rw [hrn]; exact hr
      have hz : rightN zHd.fl zHd.f zHd.s zHd.xs = true:=by decide
      have ht:=rtsame_any (w:=W) (h:=h) (h':=zHd) (numOk_of hr2 hho.f (hd.xs.below hW) hho.lm hho.c.1 hho.c.2) (numOk_of hz (by decide) Rd.nil Lm.nil (Nat.le_refl _) (by decide)) hr2 hz (hd.xs.below hW) Rd.nil hho.lm Lm.nil hho.c ⟨Nat.le_refl _,by decide⟩
      rw [numS_zero] at ht
      rw [← hon]
      exact ronly_any h kids.len (zeroN h) W ht
    have KC : Hid (∀ W,Below w.heap.size w W → Calls Tryz.prog 59 #[datA h kids.len] W fun e w'=>e = .returned (.bool kn)∧Below W.heap.size W w'):=Lib.hid fun W hW=>by
      obtain ⟨b',off',hB',hF'⟩:=(hd.below hW).items
      rw [← hkn]
      rcases Nat.eq_zero_or_pos kids.len with h0 | hp
      · have hk0 : kids = .nil:=by
          cases kids with
          | nil=>rfl
          | cons x y z=>have h3 : z.len + 1 = 0:=h0; omega
        have hx:=rkind_any nm h kids.len b' off' h 0 W (Nat.le_trans hho.cap.1 hho.cap.2) (fun V hV=>rnright_any h.fl h.f h.s h.A h.c h.xs V ((hd.xs.below hW).below hV) hho.lm hho.c.1 hho.c.2 hho.nA) (fun e=>callB_keep (hnm _ (.inl ⟨e,rfl⟩)) hW) hht hB' (fun hp=>by omega)
        have he : rkindB nm h kids.len (lastK kids) = rkindB nm h kids.len h.k:=by
          unfold rkindB
          rw [h0]
          simp
        rw [he]
        exact hx
      · obtain ⟨hh,k,e1,e2⟩:=last_item kids hp
        rw [← e2]
        exact rkind_any nm h kids.len b' off' hh k.len W (Nat.le_trans hho.cap.1 hho.cap.2) (fun V hV=>rnright_any h.fl h.f h.s h.A h.c h.xs V ((hd.xs.below hW).below hV) hho.lm hho.c.1 hho.c.2 hho.nA) (fun e=>callB_keep (hnm _ (.inl ⟨e,rfl⟩)) hW) hht hB' (fun _=>(counted_item hF' e1).2.1)
    have hkl : kids.len ≤ 9223372036854775807:=Nat.le_trans hho.cap.1 hho.cap.2
    have HW0:=Lib.hid hW0
    have HB0:=Lib.hid hb0
    have HF:=Lib.hid hF
    have HB:=Lib.hid hB
    have HOK:=Lib.hid hok
    have HTX:=Lib.hid htx
    have HNM:=Lib.hid hnm
    have IH:=Lib.hid ih
    have HSZ:=Lib.hid hsz
    have BLK : Hid (∀ W,Below W0.heap.size W0 W → C8 W w.heap.size 0 h kids.len):=Lib.hid fun W hW=>C8.of_block ((hW.block _ hs0).trans ho)
    obtain ⟨x0,x1,x2,x3,x4,x5,x6,x7⟩:=C8.of_block ho
    clear hW0 hb0 hF hB hok htx hnm ih hsz hd ho hRES hrn hon hkn hdoc hht hs0
    have hc : (left < 1) ∨ (¬ left < 1∧60 < deep) ∨ (¬ left < 1∧¬ 60 < deep∧4 < h.k∧59 < deep) ∨ (¬ left < 1∧¬ 60 < deep∧¬ (4 < h.k∧59 < deep)):=by omega
    rcases hc with c1 | ⟨c1,c2⟩ | ⟨c1,c2,c3,c4⟩ | ⟨c1,c2,c34⟩
    · have d1 : decide (left < 1) = true:=decide_eq_true c1
      have HR : Hid (RES = -1):=Lib.hid (by rw [← HRES.out,if_pos (.inl (.inl c1))])
      go_enter Tryz.func30,Tryz.ntmps30
      go_wp2_with (fail)
      rw [HW0.out]
      go_wp2_with (fail)
      go_ret
      exact ⟨by rw [HR.out]; rfl,HB0.out⟩
    · have d1 : decide (left < 1) = false:=decide_eq_false c1
      have d2 : decide (60 < deep) = true:=decide_eq_true c2
      have HR : Hid (RES = -1):=Lib.hid (by rw [← HRES.out,if_pos (.inl (.inr (.inl c2)))])
      go_enter Tryz.func30,Tryz.ntmps30
      go_wp2_with (fail)
      rw [HW0.out]
      go_wp2_with (fail)
      go_ret
      exact ⟨by rw [HR.out]; rfl,HB0.out⟩
    · have d1 : decide (left < 1) = false:=decide_eq_false c1
      have d2 : decide (60 < deep) = false:=decide_eq_false c2
      have d3 : decide (4 < h.k) = true:=decide_eq_true c3
      have d4 : decide (59 < deep) = true:=decide_eq_true c4
      have HR : Hid (RES = -1):=Lib.hid (by rw [← HRES.out,if_pos (.inl (.inr (.inr ⟨c3,c4⟩)))])
      go_enter Tryz.func30,Tryz.ntmps30
      go_wp2_with (fail)
      rw [HW0.out]
      go_wp2_with (fail)
      go_ret
      exact ⟨by rw [HR.out]; rfl,HB0.out⟩
    · have d1 : decide (left < 1) = false:=decide_eq_false c1
      have d2 : decide (60 < deep) = false:=decide_eq_false c2
      obtain ⟨q3,d3⟩ : ∃ q,decide (4 < h.k) = q:=⟨_,rfl⟩
      obtain ⟨q4,d4⟩ : ∃ q,decide (59 < deep) = q:=⟨_,rfl⟩
      have h34 : (q3 = false) ∨ (q3 = true∧q4 = false):=by
        cases q3
        · exact .inl rfl
        · refine .inr ⟨rfl,?_⟩
          rw [← d4]
          exact decide_eq_false fun h=>c34 ⟨of_decide_eq_true d3,h⟩
      have HN : Hid ((rn && on && kn) = false → RES = -1):=Lib.hid fun e=>by rw [← HRES.out,if_pos (.inr e)]
      have HY : Hid ((rn && on && kn) = true → RES = if rrF nm (left - 1) (deep + 1) kids < 0 then -1 else rrF nm (left - 1) (deep + 1) kids):=Lib.hid fun e=>by
        rw [← HRES.out,if_neg]
        rintro (h1 | h1)
        · omega
        · rw [e] at h1; cases h1
      have w1 : IntKind.i64.wrap (left - 1) = left - 1:=by rw [IntKind.wrap_i64]; omega
      have w2 : IntKind.i64.wrap (deep + 1) = deep + 1:=by rw [IntKind.wrap_i64]; omega
      clear c34 HRES
      rcases h34 with rfl | ⟨rfl,rfl⟩
      all_goals
        go_enter Tryz.func30,Tryz.ntmps30
        go_wp2_with (fail)
        rw [HW0.out]
        go_wp2_with (fail)
        refine (RC.out _ HB0.out).mono ?_
        rintro e9 v1 ⟨rfl,hb1⟩
        have HB1:=Lib.hid hb1
        clear x0 x1 x2 x3 x4 x5 x6 x7
        obtain ⟨x0,x1,x2,x3,x4,x5,x6,x7⟩:=BLK.out _ hb1
        clear hb1
        cases rn
        · have HN2:=Lib.hid (HN.out rfl)
          go_wp2_with (fail)
          go_ret
          exact ⟨by rw [HN2.out]; rfl,bel_trans (B:=w.heap.size) HB0.out HB1.out⟩
        have OC2:=Lib.hid (OC.out rfl)
        clear OC
        go_wp2_with (fail)
        refine (OC2.out _ (bel_trans (B:=w.heap.size) HB0.out HB1.out)).mono ?_
        rintro e9 v2 ⟨rfl,hb2⟩
        have HB2:=Lib.hid (bel_trans (B:=W0.heap.size) HB1.out hb2)
        clear x0 x1 x2 x3 x4 x5 x6 x7
        obtain ⟨x0,x1,x2,x3,x4,x5,x6,x7⟩:=BLK.out _ HB2.out
        clear hb2
        cases on
        · have HN2:=Lib.hid (HN.out rfl)
          go_wp2_with (fail)
          go_ret
          exact ⟨by rw [HN2.out]; rfl,bel_trans (B:=w.heap.size) HB0.out HB2.out⟩
        go_wp2_with (fail)
        refine (KC.out _ (bel_trans (B:=w.heap.size) HB0.out HB2.out)).mono ?_
        rintro e9 v3 ⟨rfl,hb3⟩
        have HB3:=Lib.hid (bel_trans (B:=W0.heap.size) HB2.out hb3)
        clear x0 x1 x2 x3 x4 x5 x6 x7
        obtain ⟨x0,x1,x2,x3,x4,x5,x6,x7⟩:=BLK.out _ HB3.out
        clear hb3
        cases kn
        · have HN2:=Lib.hid (HN.out rfl)
          go_wp2_with (fail)
          go_ret
          exact ⟨by rw [HN2.out]; rfl,bel_trans (B:=w.heap.size) HB0.out HB3.out⟩
        have HR2:=Lib.hid (HY.out rfl)
        clear HN HY
        go_wp2_with (fail)
        go_loopg [1,8,45] kids.len (fun kk n _ i wr=>Below W0.heap.size W0 wr∧∃ j : Nat,j ≤ kids.len∧kk = kids.len - j∧i = .int .i64 (j : Int)∧∃ a : Int,n = .int .i64 a∧rrF nm a (deep + 1) (kids.drop j) = rrF nm (left - 1) (deep + 1) kids∧0 ≤ a∧a ≤ 3000)
        case atStart=>exact ⟨HB3.out,0,Nat.zero_le _,rfl,rfl,left - 1,rfl,rfl,by omega,by omega⟩
        case round =>
          obtain ⟨hbr,j,hj,rfl,rfl,a,rfl,hcn,ha1,ha2⟩:=hrel
          have HBR:=Lib.hid hbr
          have HCN:=Lib.hid hcn
          clear hbr hcn x0 x1 x2 x3 x4 x5 x6 x7
          by_cases hjl : j < kids.len
          · obtain ⟨hh,k,r,hdr,hdr1⟩:=Fr.cons_of_lt hjl
            have hBe:=HB.out (by omega)
            rw [hBe]
            obtain ⟨hbl,C,D⟩:=counted_item (FAt.below HBR.out _ _ _ HF.out) hdr
            have hks:=size_item hdr
            have hko:=HOK.out.drop j
            have hkt:=TxF.drop j HTX.out
            rw [hdr] at hko hkt
            have hcn:=HCN.out
            rw [hdr,rr_cons] at hcn
            obtain ⟨v,hv⟩ : ∃ v,rrD nm a (deep + 1) hh k = v:=⟨_,rfl⟩
            have hvb:=rrD_bd nm hh k a (deep + 1) (by omega)
            rw [hv] at hcn hvb
            have CK:=Lib.hid fun W (hW : Below wr.heap.size wr W)=>IH.out k (by have:=HSZ.out; omega) hko.2.1 hkt.2.1 hh a (deep + 1) W (D.below hW) hko.1 hkt.1 (fun t ht=>callB_keep (HNM.out t (.inr (SymIn.drop j (by rw [hdr]; rcases ht with h1 | h1; exact .inl h1; exact .inr (.inl h1))))) (bel_trans (B:=w.heap.size) HB0.out (bel_trans (B:=W0.heap.size) HBR.out hW))) (by omega) (by omega) (by omega) (by omega)
            rw [hv] at CK
            have HCN2:=Lib.hid hcn
            have HDR:=Lib.hid hdr1
            obtain ⟨x0,x1,x2,x3,x4,x5,x6,x7⟩:=C
            have hba : Below wr.heap.size wr (wr.alloc (.cells #[.int .i64 hh.k,.int .i64 hh.n,.bool hh.fl,.float .f64 hh.f,.bool hh.s,.slice hh.A hh.xs.length hh.c,.string hh.t,.slice hh.B k.len hh.cap] 30)):=(Below.refl _ wr).alloc (Nat.le_refl _) _
            have HBA:=Lib.hid hba
            clear hcn hdr hdr1 hks hko hkt D hv hba
            go_wp2_with (fail)
            refine (CK.out _ HBA.out).mono ?_
            rintro e9 v4 ⟨rfl,hb2⟩
            have HB4:=Lib.hid (bel_trans (B:=W0.heap.size) HBR.out (bel_trans (B:=wr.heap.size) HBA.out hb2))
            clear hb2 x0 x1 x2 x3 x4 x5 x6 x7
            by_cases hv0 : v < 0
            · have d9 : decide (v < 0) = true:=decide_eq_true hv0
              have HRR:=Lib.hid (show rrF nm (left - 1) (deep + 1) kids = -1 by rw [← HCN2.out,if_pos hv0])
              clear hv0
              go_wp2_with (fail)
              go_ret
              refine ⟨?_,bel_trans (B:=w.heap.size) HB0.out HB4.out⟩
              have h9 : RES = -1:=by rw [HR2.out,HRR.out]; rfl
              rw [h9]
              rfl
            · have d9 : decide (v < 0) = false:=decide_eq_false hv0
              have HRR:=Lib.hid (show rrF nm v (deep + 1) (kids.drop (j + 1)) = rrF nm (left - 1) (deep + 1) kids by rw [HDR.out,← HCN2.out,if_neg hv0])
              go_wp2_with (fail)
              rw [← hBe]
              go_roundg (kids.len - (j + 1))
              case measure=>omega
              case rel=>exact ⟨HB4.out,j + 1,by omega,rfl,by go_num,v,rfl,HRR.out,by omega,by omega⟩
          · have hje : j = kids.len:=by omega
            subst hje
            have hcn:=HCN.out
            have hnil : kids.drop kids.len = .nil:=by
              have h1:=Fr.len_drop kids.len kids
              cases h2 : kids.drop kids.len with
              | nil=>rfl
              | cons x y z=>rw [h2] at h1; have h3 : z.len + 1 = kids.len - kids.len:=h1; omega
            rw [hnil] at hcn
            have HRR:=Lib.hid (show rrF nm (left - 1) (deep + 1) kids = a from hcn.symm)
            clear hcn hnil
            go_wp2_with (fail)
            go_ret
            refine ⟨?_,bel_trans (B:=w.heap.size) HB0.out HBR.out⟩
            have h9 : RES = a:=by rw [HR2.out,HRR.out,if_neg (by omega)]
            rw [h9]
            rfl
theorem rdRight_any (nm : ByteArray → Bool) (kids : Fr) (hok : kids.Ok) (htx : TxF kids) (h : Hd) (w : World) (hd : DatV w h kids) (hho : h.Ok kids.len) (hht : h.t.size ≤ 1000000)
    (hnm : ∀ t,(h.k = 4∧t = h.t) ∨ SymIn t kids → CallB w 92 #[.string t] (.bool (nm t))) :
    Calls Tryz.prog 11 #[datA h kids.len] w fun e w'=>e = .returned (.bool (rightD nm h kids))∧Below w.heap.size w w':=by
  obtain ⟨W0,hW0,hb0,ho,hs0⟩:=dat_block w h kids.len
  have R1:=Lib.hid (rgood_any nm (kids.size + 1) kids (by omega) hok htx h 3000 0 W0 (hd.below hb0) hho hht (fun t ht=>callB_keep (hnm t ht) hb0) (by decide) (by decide) (by decide) (by decide))
  rw [← rrD_right nm h kids hho.lm (LmF.of_ok hok)]
  obtain ⟨v,hv⟩ : ∃ v,rrD nm 3000 0 h kids = v:=⟨_,rfl⟩
  rw [hv] at R1 ⊢
  obtain ⟨q,hq⟩ : ∃ q,decide (0 ≤ v) = q:=⟨_,rfl⟩
  rw [hq]
  have HW0:=Lib.hid hW0
  have HB0:=Lib.hid hb0
  obtain ⟨x0,x1,x2,x3,x4,x5,x6,x7⟩:=C8.of_block ho
  clear hW0 hb0 ho hs0 hv hd hho hht hnm hok htx
  go_enter Tryz.func11,Tryz.ntmps11
  go_wp2_with (fail)
  rw [HW0.out]
  go_wp2_with (fail)
  refine R1.out.mono ?_
  rintro e9 w1 ⟨rfl,hb1⟩
  have HB1:=Lib.hid (bel_trans (B:=w.heap.size) HB0.out hb1)
  clear hb1
  go_wp2_with (fail)
  go_ret
  exact ⟨rfl,HB1.out⟩
end LM
end Go.Proofs.YtnpmfailpgbggaaGreatDoor
