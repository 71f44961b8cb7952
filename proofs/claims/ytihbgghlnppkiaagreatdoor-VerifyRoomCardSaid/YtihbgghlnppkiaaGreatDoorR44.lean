import Derived.Test.YtihbgghlnppkiaaGreatDoorR26
import Derived.Test.YtihbgghlnppkiaaGreatDoorR43
import Derived.Test.YtihbgghlnppkiaaGreatDoorR22
import Derived.Test.YtihbgghlnppkiaaGreatDoorR42
import Derived.Test.YtihbgghlnppkiaaGreatDoorR40
import Derived.Lib.LaidTab
import Derived.Lib.AppendIntMem
set_option linter.unusedVariables false
set_option linter.unusedSimpArgs false
set_option maxRecDepth 100000
set_option maxHeartbeats 16000000
namespace Go.Proofs.YtihbgghlnppkiaaGreatDoor
open Go Go.RowKit
namespace LM
def tkC (ps : List Prh) (x : Ins) : Int:=effK x.op x.a.toNat (frV ps x.a.toNat)
def puC (x : Ins) : Int:=effM x.op
theorem insN_mem {l : List Prh} {p : Prh} (h : p ∈ l) : p.code.length ≤ insN l:=by
  induction l with
  | nil=>cases h
  | cons q l ih =>
    rw [insN_cons]
    rcases List.mem_cons.1 h with rfl | h
    · omega
    · have:=ih h; omega
theorem numB_iff {n : Int} (h : numB n = true) : 0 ≤ n∧n ≤ 16777215:=by
  unfold numB at h
  simpa using h
theorem frV_bd {ps : List Prh} (h : ∀ p ∈ ps,prB p = true) (n : Nat) : 0 ≤ frV ps n∧frV ps n ≤ 16777215:=by
  unfold frV
  cases hp : ps[n]? with
  | none=>decide
  | some p =>
    have h1:=h p (List.mem_of_getElem? hp)
    unfold prB at h1
    simp only [Bool.and_eq_true,List.all_cons,List.all_nil] at h1
    exact numB_iff h1.2.1.2.2.2.1
theorem effK_bd {op : Int} {n : Nat} {f : Int} (hn : n ≤ 16777215) (hf : 0 ≤ f∧f ≤ 16777215) : 0 ≤ effK op n f∧effK op n f ≤ 100000000:=by
  unfold effK
  split
  · omega
  split
  · omega
  split
  · omega
  split
  · omega
  split <;> omega
theorem effM_bd (op : Int) : 0 ≤ effM op∧effM op ≤ 1:=by
  unfold effM
  split <;> omega
def rightP (c : Cod) (b : Bool) : Bool:=fewB c && (c.ps.all prB && (c.gs.all (fun s=>decide (s.size ≤ 100)) && b))
theorem right_tell {c : Cod} {b : Bool} (h : rightP c b = true) : (∀ p ∈ c.ps,prB p = true)∧insN c.ps ≤ 40000∧c.ps.length ≤ 4000∧b = true:=by
  unfold rightP fewB at h
  simp only [Bool.and_eq_true,decide_eq_true_eq,List.all_eq_true] at h
  exact ⟨h.2.1,h.1.2.2.2,h.1.1,h.2.2.2⟩
theorem prB_tell {p : Prh} (h : prB p = true) : PrN p∧∀ x ∈ p.code,(0 ≤ x.op∧x.op ≤ 16777215)∧(0 ≤ x.a∧x.a ≤ 16777215)∧(0 ≤ x.b∧x.b ≤ 16777215):=by
  unfold prB at h
  simp only [Bool.and_eq_true,List.all_cons,List.all_nil,List.all_eq_true] at h
  obtain ⟨-,⟨h1,h2,h3,h4,-⟩,h5⟩:=h
  refine ⟨⟨numB_iff h1,numB_iff h2,numB_iff h3,numB_iff h4⟩,fun x hx=>?_⟩
  have h6:=h5 x hx
  unfold insB at h6
  simp only [Bool.and_eq_true,List.all_cons,List.all_nil] at h6
  exact ⟨numB_iff h6.1,numB_iff h6.2.1,numB_iff h6.2.2.1⟩
theorem rightC_of {c : Cod} {b : Bool} {w : World} (hv : CodV w c) (hok : c.Ok) (h : rightP c b = true) : RightC (tkC c.ps) puC w c:=by
  obtain ⟨h1,h2,h3,-⟩:=right_tell h
  refine ⟨fun p hp=>?_,fun p hp x hx W hW=>?_⟩
  · obtain ⟨k1,k2⟩:=prB_tell (h1 p hp)
    refine ⟨k1,Nat.le_trans (insN_mem hp) h2,fun x hx=>?_⟩
    obtain ⟨-,a2,-⟩:=k2 x hx
    exact ⟨effK_bd (by omega) (frV_bd h1 _),effM_bd _,a2.1⟩
  · obtain ⟨-,a2,-⟩:=(prB_tell (h1 p hp)).2 x hx
    have e:=ceffect_any x.op x.a.toNat (by omega) x.b c W (hv.below hW) hok
    rw [Int.toNat_of_nonneg a2.1] at e
    exact e
theorem vcheck_c (q : Hd → Fr → Bool) (c : Cod) (k : Nat) (w : World) (hv : CodV w c) (hok : c.Ok) (hc40 : c.ps.length ≤ 140737488355328)
    (hq : ∀ W1,Below w.heap.size w W1 → ∀ hh k j r,c.kids.drop j = .cons hh k r → ∀ W,Below W1.heap.size W1 W → DatV W hh k → Calls Tryz.prog 22 #[datA hh k.len] W fun e w'=>e = .returned (.bool (q hh k))∧Below W.heap.size W w')
    (hF : ∀ W,Below w.heap.size w W → Calls Tryz.prog 12 #[.string primS] W fun e w'=>(∃ A cap,e = .returned (.slice A k cap))∧Below W.heap.size W w')
    (hM : ∀ (n : Nat) W,n ≤ 40000 → Calls Tryz.prog 45 #[.int .u64 1,.int .u64 (n : Int)] W fun e w'=>e = .returned (.tuple #[.int .u64 0,.int .u64 (n : Int)])∧W = w') :
    CheckW (CheckP (tkC c.ps) puC c k (rightP c (allF q c.kids))) c w :=
  vcheck_any (tkC c.ps) puC c k _ w hv hok hc40 (fun W hW=>cright_by q c W (hv.below hW) hok (hq W hW)) (fun h=>rightC_of hv hok h) hF hM
theorem run_first {tk pu : Ins → Int} {code : List Ins} {de : Int} {ds : List Int} {o : List Int ⊕ Int × Nat} (h : RunW tk pu code de ds [0] o) :
    ∃ x d,code[0]? = some x∧ds[0]? = some d∧((o = .inr ((lookS tk pu code de 0 x d ds).1,0)∧(lookS tk pu code de 0 x d ds).1 ≠ 0) ∨ (lookS tk pu code de 0 x d ds).1 = 0):=by
  generalize hq : ([0] : List Int) = q at h
  cases h with
  | done=>cases hq
  | stop h1 h2 h3 h4 h5 =>
    subst hq
    have hm:=h1.mem_iff.2 (List.mem_cons_self ..)
    simp only [List.mem_singleton] at hm
    rename_i r i x d e
    have hi : i = 0:=by omega
    subst hi
    exact ⟨x,d,h2,h3,.inl ⟨by rw [h4],by rw [h4]; exact h5⟩⟩
  | step h1 h2 h3 h4 h5 h6 =>
    subst hq
    have hm:=h1.mem_iff.2 (List.mem_cons_self ..)
    simp only [List.mem_singleton] at hm
    rename_i i x d
    have hi : i = 0:=by omega
    subst hi
    exact ⟨x,d,h2,h3,.inr h4⟩
theorem look_a0 (ps : List Prh) : (lookS (tkC ps) puC [⟨15,0,0⟩] 1 0 ⟨15,0,0⟩ 0 [0]).1 = 113:=by
  rw [lookS_a (.inl (by simp [tkC,effK]))]
theorem look_c0 (ps : List Prh) : (lookS (tkC ps) puC [⟨19,0,0⟩] 1 0 ⟨19,0,0⟩ 0 [0]).1 = 114:=by
  rw [lookS_b (by simp [tkC,effK,puC,effM]) (by decide) rfl]
section
variable (g ib io cap k : Nat)
theorem one_num (d : Int) (l : List Ins) (h0 : 0 ≤ d∧d ≤ 180) (hl : 0 < l.length) : numE (oneP d ib io cap l) = 0:=by
  unfold numE nmV
  simp only [Bool.false_eq_true,if_false]
  rw [if_neg (by omega),if_neg (by omega),if_neg (by omega),if_neg (by omega)]
theorem one_check {tk pu : Ins → Int} {d : Int} {l : List Ins} {r : Bool} {z m : Int} {i : Nat} (hr : r = true) (h : CheckP tk pu (oneC g d ib io cap l) k r z m i) : FlawP tk pu (oneC g d ib io cap l) k (oneP d ib io cap l) z i:=by
  cases h with
  | code h=>rw [hr] at h; cases h
  | begin h1 h2=>cases h2
  | flaw j i p e h1 h2 h3 h4 h5 h6 =>
    rcases j with _ | j
    · obtain rfl : oneP d ib io cap l = p:=by simpa using h3
      exact h6
    · simp at h3
  | none h1 h2 h3=>exact h3 _ (List.mem_singleton_self _)
theorem one_a {z m : Int} {i : Nat} {ps : List Prh} {r : Bool} (hr : r = true) (h : CheckP (tkC ps) puC (oneC g 1 ib io cap [⟨15,0,0⟩]) k r z m i) : z = 113∧i = 0:=by
  have e0:=one_num ib io cap 1 [⟨15,0,0⟩] (by decide) (by decide)
  have ins0 : ∀ y ∈ [(⟨15,0,0⟩ : Ins)],insE (oneC g 1 ib io cap [⟨15,0,0⟩]) (oneP 1 ib io cap [⟨15,0,0⟩]) k y = 0:=by
    intro y hy
    simp only [List.mem_singleton] at hy
    subst hy
    simp [insE,boundV]
  have hf:=one_check g ib io cap k hr h
  cases hf with
  | num h9=>exact absurd e0 h9
  | ins i x h1 h2 h3 h4=>exact absurd (ins0 x (List.mem_of_getElem? h2)) h4
  | run i e h1 h2 h3 h4 =>
    obtain ⟨x,d,hx,hd,⟨ho,hn⟩ | ho⟩:=run_first h4
    · obtain rfl : (⟨15,0,0⟩ : Ins) = x:=by simpa using hx
      obtain rfl : (0 : Int) = d:=by simpa using hd
      have hl:=look_a0 ps
      injection ho with ho
      injection ho with ho1 ho2
      exact ⟨ho1.trans hl,ho2⟩
    · obtain rfl : (⟨15,0,0⟩ : Ins) = x:=by simpa using hx
      obtain rfl : (0 : Int) = d:=by simpa using hd
      have hl:=look_a0 ps
      exact absurd (hl.symm.trans ho) (by decide)
  | none ds h1 h2 h4 =>
    obtain ⟨x,d,hx,hd,⟨ho,hn⟩ | ho⟩:=run_first h4
    · cases ho
    · obtain rfl : (⟨15,0,0⟩ : Ins) = x:=by simpa using hx
      obtain rfl : (0 : Int) = d:=by simpa using hd
      have hl:=look_a0 ps
      exact absurd (hl.symm.trans ho) (by decide)
theorem one_c {z m : Int} {i : Nat} {ps : List Prh} {r : Bool} (hr : r = true) (h : CheckP (tkC ps) puC (oneC g 1 ib io cap [⟨19,0,0⟩]) k r z m i) : z = 114:=by
  have e0:=one_num ib io cap 1 [⟨19,0,0⟩] (by decide) (by decide)
  have ins0 : ∀ y ∈ [(⟨19,0,0⟩ : Ins)],insE (oneC g 1 ib io cap [⟨19,0,0⟩]) (oneP 1 ib io cap [⟨19,0,0⟩]) k y = 0:=by
    intro y hy
    simp only [List.mem_singleton] at hy
    subst hy
    simp [insE,boundV]
  have hf:=one_check g ib io cap k hr h
  cases hf with
  | num h9=>exact absurd e0 h9
  | ins i x h1 h2 h3 h4=>exact absurd (ins0 x (List.mem_of_getElem? h2)) h4
  | run i e h1 h2 h3 h4 =>
    obtain ⟨x,d,hx,hd,⟨ho,hn⟩ | ho⟩:=run_first h4
    · obtain rfl : (⟨19,0,0⟩ : Ins) = x:=by simpa using hx
      obtain rfl : (0 : Int) = d:=by simpa using hd
      have hl:=look_c0 ps
      exact (congrArg Prod.fst (Sum.inr.inj ho)).trans hl
    · obtain rfl : (⟨19,0,0⟩ : Ins) = x:=by simpa using hx
      obtain rfl : (0 : Int) = d:=by simpa using hd
      exact absurd ((look_c0 ps).symm.trans ho) (by decide)
  | none ds h1 h2 h4 =>
    obtain ⟨x,d,hx,hd,⟨ho,hn⟩ | ho⟩:=run_first h4
    · cases ho
    · obtain rfl : (⟨19,0,0⟩ : Ins) = x:=by simpa using hx
      obtain rfl : (0 : Int) = d:=by simpa using hd
      exact absurd ((look_c0 ps).symm.trans ho) (by decide)
theorem one_b {z m : Int} {i : Nat} {ps : List Prh} {r : Bool} (hr : r = true) (h : CheckP (tkC ps) puC (oneC g 1 ib io cap [⟨19,0,0⟩,⟨15,0,0⟩]) k r z m i) : z = 0:=by
  have e0:=one_num ib io cap 1 [⟨19,0,0⟩,⟨15,0,0⟩] (by decide) (by decide)
  have ins0 : ∀ y ∈ [(⟨19,0,0⟩ : Ins),⟨15,0,0⟩],insE (oneC g 1 ib io cap [⟨19,0,0⟩,⟨15,0,0⟩]) (oneP 1 ib io cap [⟨19,0,0⟩,⟨15,0,0⟩]) k y = 0:=by
    intro y hy
    simp only [List.mem_cons,List.not_mem_nil,or_false] at hy
    rcases hy with rfl | rfl <;> simp [insE,boundV]
  have hE : ClosedW (tkC ps) puC [⟨19,0,0⟩,⟨15,0,0⟩] 1 [0,1]:=by
    refine ⟨rfl,fun i d hi hd x d' hx hd'=>?_⟩
    rcases i with _ | _ | i
    · obtain rfl : (⟨19,0,0⟩ : Ins) = x:=by simpa using hx
      obtain rfl : (0 : Int) = d':=by simpa using hd'
      simp [tkC,effK,puC,effM,goesB,jumpB]
    · obtain rfl : (⟨15,0,0⟩ : Ins) = x:=by simpa using hx
      obtain rfl : (1 : Int) = d':=by simpa using hd'
      simp [tkC,effK,puC,effM,goesB,jumpB]
    · simp at hx
  have hf:=one_check g ib io cap k hr h
  cases hf with
  | num h9=>exact absurd e0 h9
  | ins i x h1 h2 h3 h4=>exact absurd (ins0 x (List.mem_of_getElem? h2)) h4
  | run i e h1 h2 h3 h4 =>
    obtain ⟨D,hD,-⟩:=run_none (fun x _=>(effM_bd x.op).1) (fun x hx hj=>by
      simp only [List.mem_cons,List.not_mem_nil,or_false] at hx
      rcases hx with rfl | rfl <;> decide) (by decide) rfl hE rfl h4
    cases hD
  | none ds h1 h2 h4=>rfl
end
end LM
namespace LM
theorem flaw_same {c : Cod} {k : Int} {p : Prh} {tk pu : Ins → Int} (hp : ∀ x ∈ p.code,0 ≤ pu x) (hj : ∀ x ∈ p.code,0 ≤ x.a) (hn : PrN p) (h : FlawP tk pu c k p 0 0) {e : Int} {i : Nat} (h2 : FlawP tk pu c k p e i) : e = 0:=by
  generalize hz : (0 : Int) = z at h
  generalize hi0 : (0 : Nat) = i0 at h
  cases h with
  | num h=>exact absurd hz.symm h
  | ins i x a1 a2 a3 a4=>exact absurd hz.symm a4
  | run i e a1 a2 a3 a4=>exact absurd hz.symm a3
  | none ds a1 a2 a4 =>
    cases h2 with
    | num b=>exact absurd a1 b
    | ins i x b1 b2 b3 b4=>exact absurd (a2 x (List.mem_of_getElem? b2)) b4
    | run i e b1 b2 b3 b4 =>
      have hpos:=(numE_ok hn a1).2.2.2.1
      obtain ⟨k1,k2⟩:=run_good hp (fun x hx _=>hj x hx) hpos rfl a4
      obtain ⟨D,hD,-⟩:=run_none hp (fun x hx _=>hj x hx) hpos rfl k1 k2 b4
      cases hD
    | none ds b1 b2 b4=>rfl
structure NoFlaw (tk pu : Ins → Int) (c : Cod) (k : Int) : Prop where
  bg : beginB c.ps = true
  pr : ∀ p ∈ c.ps,FlawP tk pu c k p 0 0
theorem check_none {tk pu : Ins → Int} {c : Cod} {k : Int} {r : Bool} {m : Int} {i : Nat} (h : CheckP tk pu c k r 0 m i) : r = true∧NoFlaw tk pu c k:=by
  generalize hz : (0 : Int) = z at h
  cases h with
  | code h=>cases hz
  | begin=>cases hz
  | flaw j i p e a1 a2 a3 a4 a5 a6=>exact absurd hz.symm a5
  | none a1 a2 a3=>exact ⟨a1,a2,a3⟩
theorem check_same {tk pu : Ins → Int} {c : Cod} {k : Int} {r : Bool} {z m : Int} {i : Nat} (hR : ∀ p ∈ c.ps,PrN p∧p.code.length ≤ 40000∧(∀ x ∈ p.code,(0 ≤ tk x∧tk x ≤ 100000000)∧(0 ≤ pu x∧pu x ≤ 1)∧0 ≤ x.a))
    (hr : r = true) (h0 : NoFlaw tk pu c k) (h : CheckP tk pu c k r z m i) : z = 0∧m = 0∧i = 0:=by
  cases h with
  | code h=>rw [hr] at h; cases h
  | begin h1 h2=>rw [h0.bg] at h2; cases h2
  | flaw j i p e a1 a2 a3 a4 a5 a6 =>
    have hm:=List.mem_of_getElem? a3
    obtain ⟨k1,-,k3⟩:=hR p hm
    exact absurd (flaw_same (fun x hx=>(k3 x hx).2.1.1) (fun x hx=>(k3 x hx).2.2) k1 (h0.pr p hm) a6) a5
  | none a1 a2 a3=>exact ⟨rfl,rfl,rfl⟩
def greatV (c : Cod) : Bool:=decide (50 < c.ps.length) || (decide (200 < c.kids.len) || (decide (200 < c.gs.length) || c.ps.any fun p=>decide (300 < p.code.length)))
theorem greatV_no {c : Cod} (h : greatV c = false) : c.ps.length ≤ 50∧c.kids.len ≤ 200∧c.gs.length ≤ 200∧∀ p ∈ c.ps,p.code.length ≤ 300:=by
  unfold greatV at h
  simp only [Bool.or_eq_false_iff,decide_eq_false_iff_not,List.any_eq_false,decide_eq_true_eq] at h
  obtain ⟨h1,h2,h3,h4⟩:=h
  exact ⟨by omega,by omega,by omega,fun p hp=>by have:=h4 p hp; omega⟩
theorem vgreat_any (c : Cod) (w : World) (hv : CodV w c) (hcap : c.ps.length ≤ c.pc∧c.pc ≤ 9223372036854775807) : Calls Tryz.prog 5 #[codA c] w fun e w'=>e = .returned (.bool (greatV c))∧Below w.heap.size w w':=by
  obtain ⟨W0,hW0,hb0,ho,hs0,hz0⟩:=cod_block w c
  have y0 : W0.cell? ⟨w.heap.size,0,none⟩ = some (.slice c.PB c.ps.length c.pc):=ob_cell ho 0
  have y1 : W0.cell? ⟨w.heap.size,1,none⟩ = some (.slice c.CB c.kids.len c.cc):=ob_cell ho 1
  have y2 : W0.cell? ⟨w.heap.size,2,none⟩ = some (.slice c.GB c.gs.length c.gc):=ob_cell ho 2
  obtain ⟨pb,po,hPB,hPF⟩:=(hv.below hb0).ps
  have HW0:=Lib.hid hW0
  have HB0:=Lib.hid hb0
  have HP:=Lib.hid (And.intro hPB hPF)
  clear hW0 hb0 ho hs0 hz0 hPB hPF hv
  obtain ⟨r,hr⟩ : ∃ r,greatV c = r:=⟨_,rfl⟩
  rw [hr]
  have HR:=Lib.hid hr
  unfold greatV at hr
  by_cases h1 : 50 < c.ps.length
  · have d1 : decide ((50 : Int) < (c.ps.length : Int)) = true:=decide_eq_true (by omega)
    have d1' : decide (50 < c.ps.length) = true:=decide_eq_true h1
    have e1 : r = true:=by rw [← hr,d1']; rfl
    subst e1
    clear hr HR
    go_enter Tryz.func5,Tryz.ntmps5
    go_wp2_with (fail)
    rw [HW0.out]
    go_wp2_with (fail)
    go_ret
    exact ⟨rfl,HB0.out⟩
  have d1 : decide ((50 : Int) < (c.ps.length : Int)) = false:=decide_eq_false (by omega)
  have d1' : decide (50 < c.ps.length) = false:=decide_eq_false h1
  by_cases h2 : 200 < c.kids.len
  · have d2 : decide ((200 : Int) < (c.kids.len : Int)) = true:=decide_eq_true (by omega)
    have d2' : decide (200 < c.kids.len) = true:=decide_eq_true h2
    have e1 : r = true:=by rw [← hr,d1',d2']; rfl
    subst e1
    clear hr HR
    go_enter Tryz.func5,Tryz.ntmps5
    go_wp2_with (fail)
    rw [HW0.out]
    go_wp2_with (fail)
    go_ret
    exact ⟨rfl,HB0.out⟩
  have d2 : decide ((200 : Int) < (c.kids.len : Int)) = false:=decide_eq_false (by omega)
  have d2' : decide (200 < c.kids.len) = false:=decide_eq_false h2
  by_cases h3 : 200 < c.gs.length
  · have d3 : decide ((200 : Int) < (c.gs.length : Int)) = true:=decide_eq_true (by omega)
    have d3' : decide (200 < c.gs.length) = true:=decide_eq_true h3
    have e1 : r = true:=by rw [← hr,d1',d2',d3']; rfl
    subst e1
    clear hr HR
    go_enter Tryz.func5,Tryz.ntmps5
    go_wp2_with (fail)
    rw [HW0.out]
    go_wp2_with (fail)
    go_ret
    exact ⟨rfl,HB0.out⟩
  have d3 : decide ((200 : Int) < (c.gs.length : Int)) = false:=decide_eq_false (by omega)
  have d3' : decide (200 < c.gs.length) = false:=decide_eq_false h3
  rw [d1',d2',d3',Bool.false_or,Bool.false_or,Bool.false_or] at hr
  have HRR:=Lib.hid hr
  obtain ⟨N,hN⟩ : ∃ N,c.ps.length = N:=⟨_,rfl⟩
  have d0:=d1
  have d0':=d1'
  rw [hN] at y0 d1 d1' hcap
  have HN:=Lib.hid (And.intro hN hcap)
  have c1 : (N : Int) ≤ (c.pc : Int):=Int.ofNat_le.2 hcap.1
  have c2 : (c.pc : Int) ≤ 9223372036854775807:=by have:=hcap.2; omega
  have c3 : N ≤ 50:=by rw [← hN]; omega
  have HC3:=Lib.hid c3
  clear hr HR h1 h2 h3 hN hcap c3
  go_enter Tryz.func5,Tryz.ntmps5
  go_upto_region 1 with (fail)
  rw [HW0.out]
  go_wp2_with (fail)
  go_loopg [24] N (fun kk jv wr=>∃ j : Nat,jv = .int .i64 (j : Int)∧kk = N - j∧j ≤ N∧Hid (∀ q ∈ c.ps.take j,¬ 300 < q.code.length)∧Hid (Below W0.heap.size W0 wr))
  case atStart=>exact ⟨0,rfl,rfl,Nat.zero_le _,Lib.hid (fun y hy=>by simp at hy),Lib.hid (Below.refl _ _)⟩
  case round =>
    obtain ⟨j,rfl,hk,hj,HI,HBr⟩:=hrel
    by_cases hlt : j < N
    · have q1 : decide (j < N) = true:=decide_eq_true hlt
      have a1 : (0 : Int) ≤ (j : Int):=Int.natCast_nonneg j
      have a2 : (j : Int) < (N : Int):=Int.ofNat_lt.2 hlt
      obtain ⟨p,hp⟩ : ∃ p,c.ps[j]? = some p:=⟨_,List.getElem?_eq_getElem (by rw [HN.out.1]; exact hlt)⟩
      have hPB:=HP.out.1 (by rw [HN.out.1]; omega)
      obtain ⟨hbl,x0,x1,x2,x3,x4,x5,x6⟩:=(PrcAt.below HBr.out HP.out.2) j p hp
      obtain ⟨W3,hW3⟩ : ∃ W3,wr.alloc (.cells #[.string p.nm,.int .i64 p.pa,.bool p.rs,.int .i64 p.sl,.int .i64 p.de,.int .i64 p.fr,.slice p.B p.code.length p.cap] 35 (0,0)) = W3:=⟨_,rfl⟩
      have ho3 : W3.heap[wr.heap.size]? = some (prO p):=by rw [← hW3]; exact Array.getElem?_push_size
      have z6 : W3.cell? ⟨wr.heap.size,6,none⟩ = some (.slice p.B p.code.length p.cap):=ob_cell ho3 6
      have HB3:=Lib.hid (show Below W0.heap.size W0 W3 from by rw [← hW3]; exact HBr.out.alloc HBr.out.size _)
      have HW3:=Lib.hid hW3
      have HPP:=Lib.hid hp
      have HLT:=Lib.hid (And.intro hlt hk)
      have wj : RowKit.wrap64 ((j : Int) + 1) = ((j + 1 : Nat) : Int):=by have:=HC3.out; unfold RowKit.wrap64; omega
      rw [hPB]
      have HPB:=Lib.hid hPB
      clear hW3 ho3 hp hlt hk hj hbl hPB
      by_cases hc : 300 < p.code.length
      · have b1 : decide ((300 : Int) < (p.code.length : Int)) = true:=decide_eq_true (by omega)
        have b1' : decide (300 < p.code.length) = true:=decide_eq_true hc
        have e1 : r = true:=by rw [← HRR.out]; exact List.any_eq_true.2 ⟨p,List.mem_of_getElem? HPP.out,b1'⟩
        subst e1
        clear hc
        go_wp2_with (fail)
        rw [HW3.out]
        go_wp2_with (fail)
        go_ret
        exact ⟨rfl,bel_trans (B:=w.heap.size) HB0.out HB3.out⟩
      · have b1 : decide ((300 : Int) < (p.code.length : Int)) = false:=decide_eq_false (by omega)
        have b1' : decide (300 < p.code.length) = false:=decide_eq_false hc
        have HI2 : Hid (∀ q ∈ c.ps.take (j + 1),¬ 300 < q.code.length):=Lib.hid (take_snoc HPP.out HI.out hc)
        clear hc
        go_wp2_with (fail)
        rw [HW3.out]
        go_wp2_with (fail)
        rw [← HPB.out]
        go_roundg (N - (j + 1))
        case measure=>have:=HLT.out; omega
        case rel=>exact ⟨j + 1,rfl,rfl,by have:=HLT.out; omega,HI2,HB3⟩
    · have q1 : decide (j < N) = false:=decide_eq_false hlt
      have hall : ∀ q ∈ c.ps,¬ 300 < q.code.length:=take_all (by rw [HN.out.1]; omega) HI.out
      have e1 : r = false:=by rw [← HRR.out]; exact List.any_eq_false.2 fun q hq=>by simpa using hall q hq
      subst e1
      clear hall hlt hk hj
      go_wp2_with (fail)
      go_ret
      exact ⟨rfl,bel_trans (B:=w.heap.size) HB0.out HBr.out⟩
end LM
namespace LM
abbrev vrI : List Ins:=[⟨19,0,0⟩,⟨15,0,0⟩]
structure Mod (m : Int) (p p' : Prh) : Prop where
  nm : p'.nm = p.nm
  pa : p'.pa = p.pa
  rs : p'.rs = p.rs
  sl : p'.sl = p.sl + m
  de : p'.de = p.de + m
  fr : p'.fr = p.fr
  code : p'.code = p.code ++ vrI
def ModL (m : Int) (ps ps' : List Prh) : Prop:=ps'.length = ps.length∧∀ (j : Nat) p',ps'[j]? = some p' → ∃ p,ps[j]? = some p∧Mod m p p'
theorem frV_same {ps ps' : List Prh} (h : ps'.length = ps.length) (hf : ∀ (j : Nat) p',ps'[j]? = some p' → ∃ p,ps[j]? = some p∧p'.fr = p.fr) (n : Nat) : frV ps' n = frV ps n:=by
  unfold frV
  cases h1 : ps'[n]? with
  | none=>rw [List.getElem?_eq_none (by have:=List.getElem?_eq_none_iff.1 h1; omega)]
  | some p' =>
    obtain ⟨p,h2,h3⟩:=hf n p' h1
    rw [h2]
    exact h3
theorem tkC_same {ps ps' : List Prh} (h : ps'.length = ps.length) (hf : ∀ (j : Nat) p',ps'[j]? = some p' → ∃ p,ps[j]? = some p∧p'.fr = p.fr) : tkC ps' = tkC ps:=by
  funext x
  unfold tkC
  rw [frV_same h hf]
theorem ite_le {P : Prop} [Decidable P] {a b c d : Int} (h1 : a ≤ c) (h2 : b ≤ d) : (if P then a else b) ≤ (if P then c else d):=by
  by_cases h : P
  · rw [if_pos h,if_pos h]; exact h1
  · rw [if_neg h,if_neg h]; exact h2
theorem bound_le {c d : Cod} {p p' : Prh} {k op : Int} (hk : d.kids = c.kids) (hg : d.gs.length = c.gs.length) (hl : d.ps.length = c.ps.length) (h1 : p.sl ≤ p'.sl) (h2 : p'.fr = p.fr) (h3 : p.code.length ≤ p'.code.length) : boundV c p k op ≤ boundV d p' k op:=by
  unfold boundV
  exact ite_le (by rw [hk]; omega) (ite_le h1 (ite_le (by omega) (ite_le (by omega) (ite_le (by omega) (ite_le (by omega) (ite_le (by omega) (ite_le (by omega) (by omega))))))))
theorem insE_more {c d : Cod} {p p' : Prh} {k : Int} {x : Ins} (h : insE c p k x = 0) (hk : d.kids = c.kids) (hb : boundV c p k x.op ≤ boundV d p' k x.op) : insE d p' k x = 0:=by
  unfold insE at h ⊢
  rw [hk]
  by_cases h1 : 21 < x.op
  · rw [if_pos h1] at h; exact absurd h (by decide)
  rw [if_neg h1] at h ⊢
  by_cases h2 : boundV c p k x.op ≤ x.a
  · rw [if_pos h2] at h; exact absurd h (by decide)
  rw [if_neg h2] at h
  rw [if_neg (by omega)]
  exact h
theorem insE_vr {d : Cod} {p' : Prh} {k : Int} {x : Ins} (h : x ∈ vrI) : insE d p' k x = 0:=by
  simp only [List.mem_cons,List.not_mem_nil,or_false] at h
  rcases h with rfl | rfl
  · simp [insE,boundV]
  · simp [insE,boundV]
theorem flaw_zero_parts {tk pu : Ins → Int} {c : Cod} {k : Int} {p : Prh} (h : FlawP tk pu c k p 0 0) : numE p = 0∧(∀ y ∈ p.code,insE c p k y = 0)∧∃ ds,RunW tk pu p.code p.de ((List.replicate p.code.length (-1)).set 0 0) [0] (.inl ds):=by
  generalize hz : (0 : Int) = z at h
  generalize hi0 : (0 : Nat) = i0 at h
  cases h with
  | num h=>exact absurd hz.symm h
  | ins i x a1 a2 a3 a4=>exact absurd hz.symm a4
  | run i e a1 a2 a3 a4=>exact absurd hz.symm a3
  | none ds a1 a2 a4=>exact ⟨a1,a2,ds,a4⟩
theorem nmV_mod {m : Int} {p p' : Prh} (h : Mod m p p') : nmV p' = nmV p:=by
  unfold nmV
  rw [h.rs,h.pa]
theorem numE_more {m : Int} {p p' : Prh} (hm : 0 ≤ m∧m ≤ 20) (hn : PrN p) (h : Mod m p p') (h0 : numE p = 0) (h100 : p.sl + p.de ≤ 100) : numE p' = 0:=by
  obtain ⟨a1,a2,a3,a4,a5⟩:=numE_ok hn h0
  have e1:=nmV_mod h
  have e2:=h.sl
  have e3:=h.de
  have e4:=h.fr
  have e5 : p'.code.length = p.code.length + 2:=by rw [h.code]; simp
  unfold numE
  rw [if_neg (by omega),if_neg (by omega),if_neg (by omega),if_neg (by omega)]
theorem mod_none {c d : Cod} {k m : Int} {p p' : Prh} {e : Int} {i : Nat} (tk : Ins → Int) (hm : 0 ≤ m∧m ≤ 20) (hk : d.kids = c.kids) (hg : d.gs.length = c.gs.length) (hl : d.ps.length = c.ps.length) (hM : Mod m p p') (h100 : p.sl + p.de ≤ 100) (hn : PrN p)
    (hj : ∀ x ∈ p.code,0 ≤ x.a) (h0 : FlawP tk puC c k p 0 0) (h : FlawP tk puC d k p' e i) : e = 0:=by
  obtain ⟨n1,n2,ds,n3⟩:=flaw_zero_parts h0
  obtain ⟨a1,a2,a3,a4,a5⟩:=numE_ok hn n1
  have n1':=numE_more hm hn hM n1 h100
  have hlen : p'.code.length = p.code.length + 2:=by rw [hM.code]; simp
  have hins : ∀ y ∈ p'.code,insE d p' k y = 0:=fun y hy=>by
    rw [hM.code] at hy
    rcases List.mem_append.1 hy with hy | hy
    · exact insE_more (n2 y hy) hk (bound_le hk hg hl (by rw [hM.sl]; omega) hM.fr (by omega))
    · exact insE_vr hy
  have hj' : ∀ y ∈ p'.code,jumpB y = true → 0 ≤ y.a:=fun y hy _=>by
    rw [hM.code] at hy
    rcases List.mem_append.1 hy with hy | hy
    · exact hj y hy
    · simp only [List.mem_cons,List.not_mem_nil,or_false] at hy
      rcases hy with rfl | rfl <;> decide
  cases h with
  | num b=>exact absurd n1' b
  | ins i x b1 b2 b3 b4=>exact absurd (hins x (List.mem_of_getElem? b2)) b4
  | run i e b1 b2 b3 b4 =>
    obtain ⟨k1,k2⟩:=run_good (fun x _=>(effM_bd x.op).1) (fun x hx _=>hj x hx) a4 rfl n3
    have k3 : ClosedW tk puC p'.code p'.de (ds ++ List.replicate vrI.length (-1)):=by
      rw [hM.code,hM.de]
      exact (k1.behind (more:=vrI)).more (by omega)
    have k4 : (ds ++ List.replicate vrI.length (-1))[0]? = some 0:=by
      rw [List.getElem?_append_left (by rw [k1.1]; exact a4)]
      exact k2
    obtain ⟨D,hD,-⟩:=run_none (fun x _=>(effM_bd x.op).1) hj' (by omega) rfl k3 k4 b4
    cases hD
  | none ds b1 b2 b4=>rfl
theorem begin_mod {m : Int} {ps ps' : List Prh} (h : ModL m ps ps') : beginB ps' = beginB ps:=by
  obtain ⟨h1,h2⟩:=h
  cases ps' with
  | nil=>cases ps with
    | nil=>rfl
    | cons p l=>simp at h1
  | cons p' l' =>
    obtain ⟨p,hp,hm⟩:=h2 0 p' rfl
    cases ps with
    | nil=>cases hp
    | cons q l =>
      injection hp with hp
      subst hp
      unfold beginB
      dsimp only
      rw [hm.pa,hm.rs,hm.fr]
theorem check_room {c d : Cod} {k m : Int} (hm : 0 ≤ m∧m ≤ 20) (hk : d.kids = c.kids) (hg : d.gs.length = c.gs.length) (hM : ModL m c.ps d.ps) (h100 : ∀ p ∈ c.ps,p.sl + p.de ≤ 100)
    (hpr : ∀ p ∈ c.ps,PrN p∧∀ x ∈ p.code,0 ≤ x.a) (hN : NoFlaw (tkC c.ps) puC c k) {r : Bool} {z mm : Int} {i : Nat} (hr : r = true) (h : CheckP (tkC d.ps) puC d k r z mm i) : z = 0:=by
  have ht : tkC d.ps = tkC c.ps:=tkC_same hM.1 fun j p' hp'=>by
    obtain ⟨p,h1,h2⟩:=hM.2 j p' hp'
    exact ⟨p,h1,h2.fr⟩
  rw [ht] at h
  cases h with
  | code h=>rw [hr] at h; cases h
  | begin h1 h2=>rw [begin_mod hM,hN.bg] at h2; cases h2
  | flaw j i p e a1 a2 a3 a4 a5 a6 =>
    obtain ⟨p0,hp0,hmd⟩:=hM.2 j p a3
    have hpm:=List.mem_of_getElem? hp0
    exact mod_none (tkC c.ps) hm hk hg hM.1 hmd (h100 p0 hpm) (hpr p0 hpm).1 (hpr p0 hpm).2 (hN.pr p0 hpm) a6
  | none a1 a2 a3=>rfl
abbrev Prh.at (p : Prh) (de : Int) : Prh:=⟨p.nm,p.pa,p.rs,p.sl,de,p.fr,p.B,p.cap,p.code⟩
theorem flaw_other {c d : Cod} {k : Int} {p : Prh} {e : Int} {i : Nat} (tk : Ins → Int) (hk : d.kids = c.kids) (hg : d.gs.length = c.gs.length) (hl : d.ps.length = c.ps.length) (hn : PrN p)
    (hj : ∀ x ∈ p.code,0 ≤ x.a) (h0 : FlawP tk puC c k p 0 0) (h : FlawP tk puC d k p e i) : e = 0:=by
  obtain ⟨n1,n2,ds,n3⟩:=flaw_zero_parts h0
  obtain ⟨a1,a2,a3,a4,a5⟩:=numE_ok hn n1
  cases h with
  | num b=>exact absurd n1 b
  | ins i x b1 b2 b3 b4=>exact absurd (insE_more (n2 x (List.mem_of_getElem? b2)) hk (bound_le hk hg hl (Int.le_refl _) rfl (Nat.le_refl _))) b4
  | run i e b1 b2 b3 b4 =>
    obtain ⟨k1,k2⟩:=run_good (fun x _=>(effM_bd x.op).1) (fun x hx _=>hj x hx) a4 rfl n3
    obtain ⟨D,hD,-⟩:=run_none (fun x _=>(effM_bd x.op).1) (fun x hx _=>hj x hx) a4 rfl k1 k2 b4
    cases hD
  | none ds b1 b2 b4=>rfl
theorem flaw_tight {c d : Cod} {k : Int} {p : Prh} {e m : Int} {i j : Nat} {D : List Int} (tk : Ins → Int) (hk : d.kids = c.kids) (hg : d.gs.length = c.gs.length) (hl : d.ps.length = c.ps.length) (hn : PrN p)
    (hj : ∀ x ∈ p.code,0 ≤ x.a) (h0 : FlawP tk puC c k p 0 0) (hR : RunW tk puC p.code p.de ((List.replicate p.code.length (-1)).set 0 0) [0] (.inl D)) (hm : D[j]? = some m) (h1 : 1 ≤ m) (hmd : m ≤ p.de)
    (h : FlawP tk puC d k (p.at (m - 1)) e i) : e = 113:=by
  obtain ⟨n1,n2,ds,n3⟩:=flaw_zero_parts h0
  obtain ⟨a1,a2,a3,a4,a5⟩:=numE_ok hn n1
  have n1' : numE (p.at (m - 1)) = 0:=by
    have e1 : nmV (p.at (m - 1)) = nmV p:=rfl
    unfold numE
    rw [e1]
    dsimp only
    rw [if_neg (by omega),if_neg (by omega),if_neg (by omega),if_neg (by omega)]
  have tight : ∀ {o},RunW tk puC p.code (m - 1) ((List.replicate p.code.length (-1)).set 0 0) [0] o → ∃ i,o = .inr (113,i):=fun h2 =>
    run_tight (fun x _=>(effM_bd x.op).1) (fun x hx _=>hj x hx) a4 rfl hR hm h1 (by omega) (by omega) h2
  generalize hp' : p.at (m - 1) = p' at h
  cases h with
  | num b=>subst hp'; exact absurd n1' b
  | ins i x b1 b2 b3 b4 =>
    subst hp'
    exact absurd (insE_more (n2 x (List.mem_of_getElem? b2)) hk (bound_le (p':=p.at (m - 1)) hk hg hl (Int.le_refl _) rfl (Nat.le_refl _))) b4
  | run i e b1 b2 b3 b4 =>
    subst hp'
    obtain ⟨i',hi⟩:=tight b4
    injection hi with hi
    injection hi
  | none ds b1 b2 b4 =>
    subst hp'
    obtain ⟨i',hi⟩:=tight b4
    cases hi
theorem check_tight {c d : Cod} {k : Int} {p : Prh} {m : Int} {n j : Nat} {D : List Int} (hps : d.ps = c.ps.set n (p.at (m - 1))) (hn : c.ps[n]? = some p) (hk : d.kids = c.kids) (hg : d.gs.length = c.gs.length)
    (hpr : ∀ p ∈ c.ps,PrN p∧∀ x ∈ p.code,0 ≤ x.a) (hN : NoFlaw (tkC c.ps) puC c k) (hR : RunW (tkC c.ps) puC p.code p.de ((List.replicate p.code.length (-1)).set 0 0) [0] (.inl D)) (hm : D[j]? = some m) (h1 : 1 ≤ m) (hmd : m ≤ p.de)
    {r : Bool} {z mm : Int} {i : Nat} (hr : r = true) (h : CheckP (tkC d.ps) puC d k r z mm i) : z = 113:=by
  have hl : d.ps.length = c.ps.length:=by rw [hps]; simp
  have hnl : n < c.ps.length:=(List.getElem?_eq_some_iff.1 hn).1
  have hget : ∀ (j : Nat) p',d.ps[j]? = some p' → (j = n∧p' = p.at (m - 1)) ∨ (j ≠ n∧c.ps[j]? = some p'):=fun j p' hj=>by
    rw [hps] at hj
    by_cases e : j = n
    · subst e
      rw [List.getElem?_set_self hnl] at hj
      injection hj with hj
      exact .inl ⟨rfl,hj.symm⟩
    · rw [List.getElem?_set_ne (fun h=>e h.symm)] at hj
      exact .inr ⟨e,hj⟩
  have ht : tkC d.ps = tkC c.ps:=tkC_same hl fun j p' hp'=>by
    rcases hget j p' hp' with ⟨rfl,rfl⟩ | ⟨-,h⟩
    · exact ⟨p,hn,rfl⟩
    · exact ⟨p',h,rfl⟩
  have hpm:=List.mem_of_getElem? hn
  have hbg : beginB d.ps = true:=by
    have h2:=hN.bg
    rw [hps]
    revert h2 hn hnl
    cases c.ps with
    | nil=>intro h; cases h
    | cons q l =>
      intro hn hnl h2
      cases n with
      | zero =>
        injection hn with hn
        subst hn
        exact h2
      | succ n=>exact h2
  rw [ht] at h
  cases h with
  | code h=>rw [hr] at h; cases h
  | begin h1 h2=>rw [hbg] at h2; cases h2
  | flaw j' i p' e a1 a2 a3 a4 a5 a6 =>
    rcases hget j' p' a3 with ⟨rfl,rfl⟩ | ⟨-,h⟩
    · exact flaw_tight (tkC c.ps) hk hg hl (hpr p hpm).1 (hpr p hpm).2 (hN.pr p hpm) hR hm h1 hmd a6
    · have hm':=List.mem_of_getElem? h
      exact absurd (flaw_other (tkC c.ps) hk hg hl (hpr p' hm').1 (hpr p' hm').2 (hN.pr p' hm') a6) a5
  | none a1 a2 a3 =>
    have hin : d.ps[n]? = some (p.at (m - 1)):=by rw [hps]; exact List.getElem?_set_self hnl
    have h5:=flaw_tight (tkC c.ps) hk hg hl (hpr p hpm).1 (hpr p hpm).2 (hN.pr p hpm) hR hm h1 hmd (a3 _ (List.mem_of_getElem? hin))
    exact absurd h5 (by decide)
theorem insN_bd {l : List Prh} {n : Nat} (h : ∀ p ∈ l,p.code.length ≤ n) : insN l ≤ l.length * n:=by
  induction l with
  | nil=>exact Nat.zero_le _
  | cons p l ih =>
    rw [insN_cons,List.length_cons,Nat.add_mul,Nat.one_mul]
    have h1:=h p (List.mem_cons_self ..)
    have h2:=ih fun q hq=>h q (List.mem_cons_of_mem _ hq)
    omega
theorem numB_of {n : Int} (h : 0 ≤ n∧n ≤ 16777215) : numB n = true:=by
  unfold numB
  simpa using h
theorem prB_size {p : Prh} (h : prB p = true) : p.nm.size ≤ 100∧p.code.all insB = true:=by
  unfold prB at h
  simp only [Bool.and_eq_true,decide_eq_true_eq] at h
  exact ⟨h.1,h.2.2⟩
theorem prB_of {p : Prh} (h1 : p.nm.size ≤ 100) (h2 : PrN p) (h3 : p.code.all insB = true) : prB p = true:=by
  obtain ⟨b1,b2,b3,b4⟩:=h2
  unfold prB
  rw [decide_eq_true h1,h3]
  simp [numB_of b1,numB_of b2,numB_of b3,numB_of b4]
theorem rightP_of {c d : Cod} {b : Bool} (h : rightP c b = true) (hk : d.kids = c.kids) (hg : d.gs = c.gs) (hl : d.ps.length = c.ps.length) (h50 : c.ps.length ≤ 50) (hp : ∀ p ∈ d.ps,prB p = true∧p.code.length ≤ 302) : rightP d b = true:=by
  have hn : insN d.ps ≤ 40000:=by
    have:=insN_bd (l:=d.ps) (n:=302) fun p hpm=>(hp p hpm).2
    rw [hl] at this
    have : c.ps.length * 302 ≤ 50 * 302:=Nat.mul_le_mul_right _ h50
    omega
  unfold rightP fewB at h ⊢
  simp only [Bool.and_eq_true,decide_eq_true_eq,List.all_eq_true] at h ⊢
  rw [hk,hg,hl]
  exact ⟨⟨h.1.1,h.1.2.1,h.1.2.2.1,hn⟩,fun p hpm=>(hp p hpm).1,h.2.2⟩
theorem prB_mod {m : Int} {p p' : Prh} (hm : 0 ≤ m∧m ≤ 20) (h : Mod m p p') (h1 : prB p = true) (h100 : p.sl + p.de ≤ 100) (h300 : p.code.length ≤ 300) : prB p' = true∧p'.code.length ≤ 302:=by
  obtain ⟨a1,a2⟩:=prB_size h1
  obtain ⟨⟨b1,b2,b3,b4⟩,-⟩:=prB_tell h1
  refine ⟨prB_of (by rw [h.nm]; exact a1) ⟨by rw [h.pa]; exact b1,?_,?_,by rw [h.fr]; exact b4⟩ ?_,?_⟩
  · have:=h.sl; omega
  · have:=h.de; omega
  · rw [h.code,List.all_append,a2]
    decide
  · rw [h.code]
    simp
    omega
theorem prB_at {p : Prh} {m : Int} (h1 : prB p = true) (hm : 1 ≤ m∧m ≤ p.de) : prB (p.at (m - 1)) = true:=by
  obtain ⟨a1,a2⟩:=prB_size h1
  obtain ⟨⟨b1,b2,b3,b4⟩,-⟩:=prB_tell h1
  exact prB_of (p:=p.at (m - 1)) a1 ⟨b1,b2,⟨by dsimp only; omega,by dsimp only; omega⟩,b4⟩ a2
def mx (l : List Int) : Int:=l.foldl max 0
def mxP (pu : Ins → Int) (l : List (Int × Ins)) : Int:=l.foldl (fun m y=>if y.1 = 0∧0 < pu y.2 then max (max m y.1) (pu y.2) else max m y.1) 0
theorem mx_fold {l : List Int} {m de : Int} (h0 : m ≤ de) (h : ∀ v ∈ l,v ≤ de) : l.foldl max m ≤ de:=by
  induction l generalizing m with
  | nil=>exact h0
  | cons v l ih=>exact ih (Int.max_le.2 ⟨h0,h v (List.mem_cons_self ..)⟩) fun y hy=>h y (List.mem_cons_of_mem _ hy)
theorem mx_in {l : List Int} {m : Int} : l.foldl max m = m ∨ l.foldl max m ∈ l:=by
  induction l generalizing m with
  | nil=>exact .inl rfl
  | cons v l ih =>
    rcases ih (m:=max m v) with h | h
    · rw [List.foldl_cons,h]
      rcases Int.le_total m v with h1 | h1
      · rw [Int.max_eq_right h1]; exact .inr (List.mem_cons_self ..)
      · rw [Int.max_eq_left h1]; exact .inl rfl
    · exact .inr (List.mem_cons_of_mem _ h)
theorem mx_ge {l : List Int} {m : Int} : m ≤ l.foldl max m:=by
  induction l generalizing m with
  | nil=>exact Int.le_refl _
  | cons v l ih =>
    have:=ih (m:=max m v)
    rw [List.foldl_cons]
    omega
theorem run_room {tk : Ins → Int} {p : Prh} (htk : ∀ x ∈ p.code,0 ≤ tk x) (hj : ∀ x ∈ p.code,0 ≤ x.a) (hde : 0 ≤ p.de) (hpos : 0 < p.code.length) {D : List Int} (hR : RunW tk puC p.code p.de ((List.replicate p.code.length (-1)).set 0 0) [0] (.inl D)) :
    D.length = p.code.length∧∀ (j : Nat) v x,D[j]? = some v → p.code[j]? = some x → -1 ≤ v∧v ≤ p.de∧(v = 0 → puC x ≤ p.de):=by
  obtain ⟨k1,k2⟩:=run_good (fun x _=>(effM_bd x.op).1) (fun x hx _=>hj x hx) hpos rfl hR
  obtain ⟨b1,b2,b3⟩:=run_begin hpos
  refine ⟨k1.1,fun j v x hv hx=>?_⟩
  have h1 : v ≤ p.de:=by
    rcases run_le (fun x hx _=>hj x hx) hR D rfl j v hv with h | h
    · by_cases e : v = -1
      · omega
      · have:=b3 j v h e
        subst this
        rw [b2] at h
        injection h with h
        omega
    · exact h
  by_cases e : v = -1
  · exact ⟨by omega,h1,fun h=>by omega⟩
  · obtain ⟨c1,c2,-⟩:=k1.2 j v hv e x v hx hv
    have hxm:=List.mem_of_getElem? hx
    have h3:=htk x hxm
    have c1' : 0 ≤ v - tk x:=c1
    have c2' : v - tk x + puC x ≤ p.de:=c2
    exact ⟨by omega,h1,fun h=>by omega⟩
end LM
namespace LM
theorem vdepthsR_any (tk pu : Ins → Int) (c : Cod) (p : Prh) (k : Int) (pn n pb po ib io : Nat) (w : World) (hPB : c.PB = some ⟨pb,po,none⟩) (hpn : pn < c.ps.length) (hcap : c.ps.length ≤ c.pc∧c.pc ≤ 9223372036854775807)
    (hp : PK w w.heap.size pb (po + pn * 7) ib io p) (hn : p.code.length = n) (hnn : n ≤ 40000) (hpr : PrN p)
    (hE : ∀ x ∈ p.code,∀ W,Below w.heap.size w W → Calls Tryz.prog 8 #[insA x,codA c] W fun e w'=>e = .returned (.tuple #[.int .i64 (tk x),.int .i64 (pu x)])∧Below W.heap.size W w')
    (hB : ∀ x ∈ p.code,(0 ≤ tk x∧tk x ≤ 100000000)∧(0 ≤ pu x∧pu x ≤ 1)∧0 ≤ x.a)
    (hM : ∀ W,Calls Tryz.prog 45 #[.int .u64 1,.int .u64 (n : Int)] W fun e w'=>e = .returned (.tuple #[.int .u64 0,.int .u64 (n : Int)])∧W = w')
    (hfl : FlawP tk pu c k p 0 0) (hCk : ∀ W,Below w.heap.size w W → CheckW (fun z m i=>z = 0∧m = 0∧i = 0) c W) :
    Calls Tryz.prog 7 #[codA c,.int .i64 (pn : Int)] w fun e w'=>∃ (ds : List Int) (g1 : Nat),RunW tk pu p.code p.de ((List.replicate p.code.length (-1)).set 0 0) [0] (.inl ds)∧ds.length = p.code.length∧e = .returned (.slice (some ⟨g1,0,none⟩) ds.length ds.length)∧w.heap.size ≤ g1∧w'.heap[g1]? = some (.cells (ivs ds).toArray 3 (0,0))∧Below w.heap.size w w':=by
  obtain ⟨W1,hW1⟩ : ∃ W1,w.alloc (codO c) = W1:=⟨_,rfl⟩
  have hb1 : Below w.heap.size w W1:=by rw [← hW1]; exact (Below.refl _ w).alloc (Nat.le_refl _) _
  have hs1 : w.heap.size < W1.heap.size:=by rw [← hW1]; simp
  have o1 : W1.heap[w.heap.size]? = some (codO c):=by rw [← hW1]; exact Array.getElem?_push_size
  have a1 : (0 : Int) ≤ (pn : Int):=Int.natCast_nonneg pn
  have d1 : decide ((pn : Int) < 0) = false:=decide_eq_false (by omega)
  have d2 : decide ((c.ps.length : Int) ≤ (pn : Int)) = false:=decide_eq_false (by omega)
  have d3 : decide (c.ps.length ≤ pn) = false:=decide_eq_false (by omega)
  have hNum : numE p = 0∧(∀ y ∈ p.code,insE c p k y = 0)∧∃ ds,RunW tk pu p.code p.de ((List.replicate p.code.length (-1)).set 0 0) [0] (.inl ds):=by
    generalize hz : (0 : Int) = z at hfl
    generalize hi0 : (0 : Nat) = i0 at hfl
    cases hfl with
    | num h=>exact absurd hz.symm h
    | ins i x a1 a2 a3 a4=>exact absurd hz.symm a4
    | run i e a1 a2 a3 a4=>exact absurd hz.symm a3
    | none ds a1 a2 a4=>exact ⟨a1,a2,ds,a4⟩
  obtain ⟨n1,n2,ds0,n3⟩:=hNum
  obtain ⟨-,-,-,hpos,hde⟩:=numE_ok hpr n1
  have hpu : ∀ x ∈ p.code,0 ≤ pu x:=fun x hx=>(hB x hx).2.1.1
  have hja : ∀ x ∈ p.code,jumpB x = true → 0 ≤ x.a:=fun x hx _=>(hB x hx).2.2
  obtain ⟨g1,g2⟩:=run_good hpu hja hpos rfl n3
  have CK:=Lib.hid (hCk W1 hb1)
  have DO : Hid (∀ W,Below w.heap.size w W → Calls Tryz.prog 14 #[codA c,.int .i64 (pn : Int)] W fun e w'=>∃ (ds : List Int) (g : Nat),RunW tk pu p.code p.de ((List.replicate p.code.length (-1)).set 0 0) [0] (.inl ds)∧ds.length = p.code.length∧e = .returned (.tuple #[.slice (some ⟨g,0,none⟩) ds.length ds.length,.agg #[.int .i64 0,.int .i64 0,.int .i64 0]])∧W.heap.size ≤ g∧w'.heap[g]? = some (.cells (ivs ds).toArray 3 (0,0))∧Below W.heap.size W w'):=Lib.hid fun W hW=>by
    refine (vdepths_any tk pu c p pn n pb po ib io W hPB hpn hcap (hp.up hW (Nat.le_refl _) hW.size) hn (by omega) hnn hde (fun y hy W2 hW2=>hE y hy W2 (bel_trans (B:=w.heap.size) hW hW2)) (fun y hy=>⟨(hB y hy).1,(hB y hy).2.1,fun hjj=>⟨(hB y hy).2.2,insE_jump (n2 y hy) hjj⟩⟩) hM).mono ?_
    rintro e w' ⟨o,g,hrun,rfl,hg,hb⟩
    rw [← hn] at hrun
    obtain ⟨D,rfl,-⟩:=run_none hpu hja hpos rfl g1 g2 hrun
    obtain ⟨q1,q2⟩:=run_good hpu hja hpos rfl hrun
    obtain ⟨q3,q4⟩:=hg D rfl
    exact ⟨D,g,hrun,q1.1,rfl,q3,q4,hb⟩
  obtain ⟨y0,y1,y2⟩:=K3.of_block o1
  simp only [Nat.zero_add] at y0 y1 y2
  have HW1:=Lib.hid hW1
  have HB1:=Lib.hid hb1
  have O1:=Lib.hid o1
  clear hPB hpn hcap hp hn hnn hpr hE hB hM hfl hCk hW1 hb1 o1 n1 n2 n3 hpos hde hpu hja g1 g2
  go_enter Tryz.func7,Tryz.ntmps7
  go_upto_region 1 with (fail)
  rw [HW1.out]
  go_wp2_with (fail)
  refine CK.out.mono ?_
  rintro e w2 ⟨z,m,i,⟨rfl,rfl,rfl⟩,rfl,hb2⟩
  have hB2 : Below w.heap.size w w2:=bel_trans (B:=w.heap.size) HB1.out hb2
  have o2:=(hb2.block _ (hlt_of O1.out)).trans O1.out
  obtain ⟨x0,x1,x2⟩:=K3.of_block o2
  simp only [Nat.zero_add] at x0 x1 x2
  have DD:=Lib.hid (DO.out w2 hB2)
  have HB2:=Lib.hid hB2
  clear hb2 hB2 o2 y0 y1 y2
  go_wp2_with (fail)
  refine DD.out.mono ?_
  rintro e w3 ⟨ds,g,q1,q2,rfl,q3,q4,hb3⟩
  have Q:=Lib.hid (And.intro q1 (And.intro q2 (And.intro q3 q4)))
  obtain ⟨W4,hW4⟩ : ∃ W4,w3.alloc (.cells #[.int .i64 0,.int .i64 0,.int .i64 0] 31 (0,0)) = W4:=⟨_,rfl⟩
  have hb4 : Below w3.heap.size w3 W4:=by rw [← hW4]; exact (Below.refl _ w3).alloc (Nat.le_refl _) _
  have Q4:=Lib.hid ((hb4.block g (hlt_of q4)).trans q4)
  have HB4:=Lib.hid (bel_trans (B:=w.heap.size) (bel_trans (B:=w.heap.size) HB2.out hb3) hb4)
  have HW4:=Lib.hid hW4
  clear q1 q2 q3 q4 hb3 hW4 hb4
  go_wp2_with (fail)
  rw [HW4.out]
  go_wp2_with (fail)
  go_ret
  exact ⟨ds,g,Q.out.1,Q.out.2.1,rfl,Nat.le_trans HB2.out.size Q.out.2.2.1,Q4.out,HB4.out⟩
end LM
namespace LM
theorem flat_get {α : Type} (f : α → List Value) (k : Nat) (hk : ∀ x,(f x).length = k) : ∀ (l : List α) (q r : Nat),r < k → (l.flatMap f)[q * k + r]? = l[q]?.bind fun x=>(f x)[r]?
  | [],q,r,_=>by simp
  | x :: l,0,r,h=>by
    rw [List.flatMap_cons,Nat.zero_mul,Nat.zero_add,List.getElem?_append_left (by rw [hk]; exact h)]; rfl
  | x :: l,q + 1,r,h=>by
    rw [List.flatMap_cons,List.getElem?_append_right (by rw [hk,Nat.add_mul]; omega),hk,show (q + 1) * k + r - k = q * k + r by rw [Nat.add_mul]; omega]
    exact flat_get f k hk l q r h
theorem flat_len {α : Type} (f : α → List Value) (k : Nat) (hk : ∀ x,(f x).length = k) (l : List α) : (l.flatMap f).length = l.length * k:=by
  induction l with
  | nil=>simp
  | cons x l ih=>rw [List.flatMap_cons,List.length_append,ih,hk,List.length_cons,Nat.add_mul]; omega
abbrev insV (x : Ins) : List Value:=[.int .i64 x.op,.int .i64 x.a,.int .i64 x.b]
abbrev prV7 (p : Prh) : List Value:=[.string p.nm,.int .i64 p.pa,.bool p.rs,.int .i64 p.sl,.int .i64 p.de,.int .i64 p.fr,.slice p.B p.code.length p.cap]
def insC (l : List Ins) : List Value:=l.flatMap insV
def prcC (l : List Prh) : List Value:=l.flatMap prV7
theorem insC_len (l : List Ins) : (insC l).length = l.length * 3:=flat_len insV 3 (fun _=>rfl) l
theorem prcC_len (l : List Prh) : (prcC l).length = l.length * 7:=flat_len prV7 7 (fun _=>rfl) l
theorem insC_app (a b : List Ins) : insC (a ++ b) = insC a ++ insC b:=by simp [insC]
theorem prcC_app (a b : List Prh) : prcC (a ++ b) = prcC a ++ prcC b:=by simp [prcC]
theorem insC_one (l : List Ins) : ∀ u ∈ insC l,u.oneCell' = true:=fun u hu=>by
  obtain ⟨x,-,h⟩:=List.mem_flatMap.1 hu
  simp only [insV,List.mem_cons,List.not_mem_nil,or_false] at h
  rcases h with rfl | rfl | rfl <;> rfl
theorem prcC_one (l : List Prh) : ∀ u ∈ prcC l,u.oneCell' = true:=fun u hu=>by
  obtain ⟨x,-,h⟩:=List.mem_flatMap.1 hu
  simp only [prV7,List.mem_cons,List.not_mem_nil,or_false] at h
  rcases h with rfl | rfl | rfl | rfl | rfl | rfl | rfl <;> rfl
theorem ins_news {w : World} {b off : Nat} {l : List Ins} (h : InsAt w b off l) (j : Nat) (u : Value) (hj : (insC l)[j]? = some u) : w.cell? ⟨b,off + j,none⟩ = some u:=by
  have e : j = j / 3 * 3 + j % 3:=by omega
  rw [e,insC,flat_get insV 3 (fun _=>rfl) l _ _ (by omega)] at hj
  obtain ⟨x,hx,hu⟩:=Option.bind_eq_some_iff.1 hj
  obtain ⟨-,c0,c1,c2⟩:=h _ x hx
  have hr : j % 3 = 0 ∨ j % 3 = 1 ∨ j % 3 = 2:=by omega
  rcases hr with r | r | r
  all_goals
    rw [r] at hu
    injection hu with hu
    subst hu
    rw [e,r]
    first | exact c0 | exact c1 | exact c2
theorem prc_news {w : World} {b off : Nat} {l : List Prh} (h : PrcAt w b off l) (j : Nat) (u : Value) (hj : (prcC l)[j]? = some u) : w.cell? ⟨b,off + j,none⟩ = some u:=by
  have e : j = j / 7 * 7 + j % 7:=by omega
  rw [e,prcC,flat_get prV7 7 (fun _=>rfl) l _ _ (by omega)] at hj
  obtain ⟨x,hx,hu⟩:=Option.bind_eq_some_iff.1 hj
  obtain ⟨-,c0,c1,c2,c3,c4,c5,c6⟩:=h _ x hx
  have hr : j % 7 = 0 ∨ j % 7 = 1 ∨ j % 7 = 2 ∨ j % 7 = 3 ∨ j % 7 = 4 ∨ j % 7 = 5 ∨ j % 7 = 6:=by omega
  rcases hr with r | r | r | r | r | r | r
  all_goals
    rw [r] at hu
    injection hu with hu
    subst hu
    rw [e,r]
    first | exact c0 | exact c1 | exact c2 | exact c3 | exact c4 | exact c5 | exact c6
theorem take_get {α : Type} {l xs : List α} {n j : Nat} {u : α} (h : l.take n = xs) (hj : xs[j]? = some u) : l[j]? = some u:=by
  rw [← h] at hj
  have hl:=(List.getElem?_eq_some_iff.1 hj).1
  rw [List.length_take] at hl
  rwa [List.getElem?_take_of_lt (by omega)] at hj
theorem cur_get {w : World} {g n : Nat} {cur : Array Value} {e : TypeId} {xs : List Value} (h : w.heap[g]? = some (.cells cur e (0,0))) (ht : cur.toList.take n = xs) {j : Nat} {u : Value} (hj : xs[j]? = some u) : w.cell? ⟨g,j,none⟩ = some u:=by
  rw [ob_cell h]
  simpa using take_get ht hj
theorem ins_of_row {w : World} {g n : Nat} {cur : Array Value} {e : TypeId} {l : List Ins} (h : w.heap[g]? = some (.cells cur e (0,0))) (ht : cur.toList.take n = insC l) : InsAt w g 0 l:=fun j x hx=>by
  have G : ∀ r,r < 3 → (insC l)[j * 3 + r]? = (insV x)[r]?:=fun r hr=>by
    rw [insC,flat_get insV 3 (fun _=>rfl) l j r hr,hx]; rfl
  refine ⟨hlt_of h,?_,?_,?_⟩
  · rw [Nat.zero_add]; exact cur_get h ht (G 0 (by decide))
  · rw [Nat.zero_add]; exact cur_get h ht (G 1 (by decide))
  · rw [Nat.zero_add]; exact cur_get h ht (G 2 (by decide))
theorem prc_of_row {w : World} {g n : Nat} {cur : Array Value} {e : TypeId} {l : List Prh} (h : w.heap[g]? = some (.cells cur e (0,0))) (ht : cur.toList.take n = prcC l) : PrcAt w g 0 l:=fun j x hx=>by
  have G : ∀ r,r < 7 → (prcC l)[j * 7 + r]? = (prV7 x)[r]?:=fun r hr=>by
    rw [prcC,flat_get prV7 7 (fun _=>rfl) l j r hr,hx]; rfl
  refine ⟨hlt_of h,?_,?_,?_,?_,?_,?_,?_⟩
  · rw [Nat.zero_add]; exact cur_get h ht (G 0 (by decide))
  · rw [Nat.zero_add]; exact cur_get h ht (G 1 (by decide))
  · rw [Nat.zero_add]; exact cur_get h ht (G 2 (by decide))
  · rw [Nat.zero_add]; exact cur_get h ht (G 3 (by decide))
  · rw [Nat.zero_add]; exact cur_get h ht (G 4 (by decide))
  · rw [Nat.zero_add]; exact cur_get h ht (G 5 (by decide))
  · rw [Nat.zero_add]; exact cur_get h ht (G 6 (by decide))
theorem own_belowR {w w' : World} {base size n : Nat} {e : TypeId} {v : Value} {xs : List Value} (h : w.ownsRow base e size v n xs) (hb : Below w.heap.size w w') : w'.ownsRow base e size v n xs:=by
  obtain ⟨h1,h2⟩:=h
  refine ⟨h1,?_⟩
  rcases h2 with h2 | ⟨g,cap,cur,e,e1,e2,e3⟩
  · exact .inl h2
  · exact .inr ⟨g,cap,cur,e,e1,(hb.block g (hlt_of e2)).trans e2,e3⟩
structure Built (D : Nat) (m : Int) (c : Cod) (w : World) (dv : Value) (ps' : List Prh) : Prop where
  own : w.ownsRow (D + 1) 35 7 dv ps'.length (prcC ps')
  mod : ∀ (i : Nat) p',ps'[i]? = some p' → ∃ p,c.ps[i]? = some p∧Mod m p p'∧p'.Ok
  pv : ∀ p' ∈ ps',∃ b,p'.B = some ⟨b,0,none⟩∧InsAt w b 0 p'.code∧D < b∧b < w.heap.size∧some b ≠ dv.ownBlock
  blk : w.heap[D]? = some (.cells #[dv,.slice c.CB c.kids.len c.cc,.slice c.GB c.gs.length c.gc] 26 (0,0))
theorem Built.below {D : Nat} {m : Int} {c : Cod} {w w' : World} {dv : Value} {ps' : List Prh} (h : Built D m c w dv ps') (hb : Below w.heap.size w w') : Built D m c w' dv ps' :=
  ⟨own_belowR h.own hb,h.mod,fun p hp=>by
    obtain ⟨b,h1,h2,h3,h4,h5⟩:=h.pv p hp
    exact ⟨b,h1,h2.below hb,h3,Nat.lt_of_lt_of_le h4 hb.size,h5⟩,(hb.block _ (hlt_of h.blk)).trans h.blk⟩
theorem mx2 {mo v de : Int} (h0 : 0 ≤ mo) (h1 : mo ≤ de) (h2 : v ≤ de) : 0 ≤ max mo v∧max mo v ≤ de:=⟨Int.le_trans h0 (Int.le_max_left ..),Int.max_le.2 ⟨h1,h2⟩⟩
end LM
namespace LM
structure BoolsAt (w : World) (B : Option Addr) (b off cap : Nat) (bs : List Bool) : Prop where
  hB : 0 < bs.length → B = some ⟨b,off,none⟩
  at_ : ∀ (j : Nat) x,bs[j]? = some x → b < w.heap.size∧w.cell? ⟨b,off + j,none⟩ = some (.bool x)
  cap : bs.length ≤ cap∧cap ≤ 9223372036854775807
end LM
namespace LM
def primK : Nat:=(Lib.fields primL).length
theorem prim_list : primS.data.toList = primL:=by unfold primS; simp
theorem prim_size : primS.size < 4294967281:=of_decide_eq_true (by kernel_rfl)
theorem prim_ascii : ∀ (j : Nat) b,primS.data.toList[j]? = some b → b.toNat < 128:=by
  have h : (primL.all fun b=>decide (b.toNat < 128)) = true:=by kernel_rfl
  intro j b hb
  rw [prim_list] at hb
  exact of_decide_eq_true (List.all_eq_true.1 h b (List.mem_of_getElem? hb))
abbrev SPT (w : World) : Prop := Lib.TabIs Tryz.prog w "strings.asciiSpace" .u8 Lib.asciiSpaceTab
theorem vfields (w : World) (h : ∀ W,Below w.heap.size w W → SPT W) : ∀ W,Below w.heap.size w W → Calls Tryz.prog 12 #[.string primS] W fun e w'=>(∃ A cap,e = .returned (.slice A primK cap))∧Below W.heap.size W w':=by
  intro W hW
  refine (Tryz.strings_Fields primS W prim_size prim_ascii (h W hW)).mono ?_
  rintro e w' ⟨rfl,rfl⟩
  rw [prim_list]
  exact ⟨⟨_,_,rfl⟩,(Below.refl _ W).alloc (Nat.le_refl _) _⟩
theorem vmul : ∀ (n : Nat) (W : World),n ≤ 40000 → Calls Tryz.prog 45 #[.int .u64 1,.int .u64 (n : Int)] W fun e w'=>e = .returned (.tuple #[.int .u64 0,.int .u64 (n : Int)])∧W = w':=by
  intro n W hn
  have h:=Tryz.bits_Mul 1 n (by decide) (by omega) W
  refine h.mono ?_
  rintro e w' ⟨rfl,hw⟩
  have e1 : 1 * n / 18446744073709551616 = 0:=by omega
  have e2 : 1 * n % 18446744073709551616 = n:=by omega
  rw [e1,e2]
  first | exact ⟨rfl,hw.symm⟩ | exact ⟨rfl,hw⟩
theorem one_ck (Q : Int → Int → Nat → Prop) (d : Int) (l : List Ins) (w : World) (hl : l.length ≤ 1000) (h : ∀ W,Below w.heap.size w W → SPT W) (hr : ∀ g ib io cap,rightP (oneC g d ib io cap l) true = true)
    (hQ : ∀ g ib io cap z m i,CheckP (tkC (oneC g d ib io cap l).ps) puC (oneC g d ib io cap l) primK (rightP (oneC g d ib io cap l) true) z m i → Q z m i) : OneCk w Q d l:=by
  intro W g ib io cap hW hg hI hc hc2
  have hv : CodV W (oneC g d ib io cap l):=by
    refine ⟨⟨g,0,fun _=>rfl,fun j p hj=>?_⟩,fun p hp=>?_,⟨0,0,fun h=>absurd h (Nat.lt_irrefl 0),trivial⟩,⟨0,0,fun h=>absurd h (Nat.lt_irrefl 0),fun j x hx=>by simp at hx⟩⟩
    · rcases j with _ | j
      · obtain rfl : oneP d ib io cap l = p:=by simpa using hj
        exact ⟨hlt_of hg,P7.of_block hg⟩
      · simp at hj
    · obtain rfl : p = oneP d ib io cap l:=by simpa using hp
      exact ⟨ib,io,fun _=>rfl,hI⟩
  have hok : (oneC g d ib io cap l).Ok:=⟨⟨Nat.le_refl 1,(by decide : (1 : Nat) ≤ 9223372036854775807)⟩,⟨Nat.le_refl 0,Nat.zero_le _⟩,⟨Nat.le_refl 0,Nat.zero_le _⟩,fun p hp=>by
    obtain rfl : p = oneP d ib io cap l:=by simpa using hp
    exact ⟨⟨hc,hc2⟩,by show l.length ≤ _; omega⟩⟩
  have ck:=vcheck_c (fun _ _=>true) (oneC g d ib io cap l) primK W hv hok (by show 1 ≤ _; decide) (fun W1 _ hh k j r hdr=>by cases j <;> cases hdr) (fun W2 hW2=>vfields w h W2 (bel_trans (B:=w.heap.size) hW hW2)) vmul
  refine ck.mono ?_
  rintro e w' ⟨z,m,i,hz,rfl,hb⟩
  exact ⟨z,m,i,hQ g ib io cap z m i hz,rfl,hb⟩
theorem valive_w (w : World) (h : ∀ W,Below w.heap.size w W → SPT W) : Calls Tryz.prog 4 #[] w fun e w'=>e = .returned (.bool true)∧Below w.heap.size w w' :=
  valive_any w (one_ck _ 1 _ w (by decide) h (fun g ib io cap=>rfl) (fun g ib io cap z m i hz=>one_a g ib io cap primK rfl hz)) (one_ck _ 1 _ w (by decide) h (fun g ib io cap=>rfl) (fun g ib io cap z m i hz=>one_b g ib io cap primK rfl hz))
    (one_ck _ 1 _ w (by decide) h (fun g ib io cap=>rfl) (fun g ib io cap z m i hz=>one_c g ib io cap primK rfl hz))
theorem spt_of {l : List (String × DataW Unit)} {W : World} (h : laidMetH Tryz.prog l W)
    (he : ((l.filter fun x => x.2.handleName?.isNone).filter fun x => x.1 == "strings.asciiSpace") = [("strings.asciiSpace", Lib.tabData .u8 Lib.asciiSpaceTab)]) : ∀ W', Below W.heap.size W W' → SPT W' := by
  have t : SPT W:=Lib.tabIs_of_head (g:=0) (t:=67) (e:=5) (n:=256) (by kernel_rfl) (by kernel_rfl) Tryz.underlying67 Tryz.underlying5 (by kernel_rfl) (by kernel_rfl) (listed_of h he)
  exact fun W' hb=>Lib.tabBelow_of_tabIs t W' hb
end LM
end Go.Proofs.YtihbgghlnppkiaaGreatDoor
