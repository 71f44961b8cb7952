import Derived.Test.YtihbgghlnppkiaaGreatDoorR29
import Derived.Test.YtihbgghlnppkiaaGreatDoorR30
import Derived.Test.YtihbgghlnppkiaaGreatDoorR31
import Derived.Test.YtihbgghlnppkiaaGreatDoorR10
import Derived.Handy
import Derived.Laws.MakeOwn
import Derived.Lib.IndexLaws
import Derived.Test.YtihbgghlnppkiaaGreatDoorR28
import Derived.Test.YtihbgghlnppkiaaGreatDoorR33
import Derived.Laws.FloatArith
import Derived.Test.YtihbgghlnppkiaaGreatDoorR01
import Derived.Test.YtihbgghlnppkiaaGreatDoorR49
set_option linter.unusedVariables false
set_option linter.unusedSimpArgs false
set_option maxRecDepth 100000
set_option maxHeartbeats 16000000
namespace Go.Proofs.YtihbgghlnppkiaaGreatDoor
open Go Go.Shelf Go.RowKit Go.Sort Go.Lib
namespace LM
theorem OB.made (w W1 : World) (cur : Array Value) (hc : cur.size = 24) (hB : Below w.heap.size w W1) (hz : w.heap.size ≤ W1.heap.size) : OB w.heap.size w 0 [] (.slice (some ⟨W1.heap.size,0,none⟩) 0 24) [] (W1.alloc (.cells cur 5)) :=
  ⟨World.ownsRow_made W1 cur 24 hz (by decide) (by rw [hc]),hB.alloc hz _,by simp; omega,.inl rfl⟩
theorem iformat_any (b c : Nat) (text : List UInt8) (w : World) (ht : text ≠ []) (hc : c < 256)
    (hF : ∀ v w1,OB w.heap.size w 0 [] v [] w1 → Calls Tryz.prog 140 #[v,.float .f64 b,.int .u8 (c : Int),.int .i64 (-1)] w1 fun r w'=>∃ v' g ds,r = .returned v'∧OB w.heap.size w g ds v' text w') :
    Calls Tryz.prog 118 #[.float .f64 b,.int .u8 (c : Int),.int .i64 (-1),.int .i64 64] w fun e w'=>e = .returned (.string ⟨text.toArray⟩)∧Below w.heap.size w w':=by
  have HF:=Lib.hid hF
  have hmx : max (3 : Int) 24 = 24:=by decide
  obtain ⟨i0,hi0,hz0,hz1,hz2⟩:=info_parts8 u8_info
  have hmk : ∃ cur : Array Value,cur.size = 24∧∀ W,(Instr.makeSlice 113 (.int .i64 0) (.int .i64 24)).run Tryz.prog W = .ok (.slice (some ⟨W.heap.size,0,none⟩) 0 24) (W.alloc (.cells cur 5)) :=
    ⟨madeCells (Value.int .u8 0).cells ((24 : Int).toNat * i0.size),by rw [hz1]; simp [madeCells],fun W=>run_make W 113 5 i0 (.int .u8 0) Tryz.underlying113 hi0 hz0 .i64 .i64 0 24 (by decide) (by decide) (by rw [hz2]; decide) (by decide)⟩
  obtain ⟨cur,hcs,hmk⟩:=hmk
  clear hi0 hz0 hz1 hz2
  clear hF
  go_enter Tryz.func118,Tryz.ntmps118
  go_wp2_with (fail)
  refine (HF.out _ _ (OB.made w w cur hcs (Below.refl _ w) (Nat.le_refl _))).mono ?_
  rintro r w1 ⟨v',g,ds,rfl,hob⟩
  have hb1:=Lib.hid hob.2.1
  have hcv : (convert 113 9 v').run Tryz.prog w1 = .ok (.string ⟨text.toArray⟩) w1:=by
    rcases hob.1 with ⟨hx,⟨rfl,h0⟩ | ⟨g1,cap,cur1,rfl,hbg,hgc,hnc,hcm,hcz,htake⟩⟩
    · exact absurd (List.eq_nil_of_length_eq_zero h0) ht
    · have h:=run_convert_bytes_back (P:=Tryz.prog) w1 113 9 5 ⟨g1,0,none⟩ cap text Tryz.underlying113 Tryz.underlying5 Tryz.underlying9 (fun j hj=>by
        rw [Lib.add_plain,Nat.zero_add,cell_of_row w1 g1 j cur1 _ (0,0) hgc,← Array.getElem?_toList]
        have h2 : (cur1.toList.take (text.length * 1))[j]? = (text.map enc8)[j]?:=by rw [htake]
        rw [List.getElem?_take,if_pos (by omega),List.getElem?_map,List.getElem?_eq_getElem hj] at h2
        exact h2)
      exact h
  clear hob
  go_wp2
  go_ret
  exact ⟨rfl,hb1.out⟩
theorem format_any (b c : Nat) (text : List UInt8) (w : World) (ht : text ≠ []) (hc : c < 256)
    (hF : ∀ v w1,OB w.heap.size w 0 [] v [] w1 → Calls Tryz.prog 140 #[v,.float .f64 b,.int .u8 (c : Int),.int .i64 (-1)] w1 fun r w'=>∃ v' g ds,r = .returned v'∧OB w.heap.size w g ds v' text w') :
    Calls Tryz.prog 104 #[.float .f64 b,.int .u8 (c : Int),.int .i64 (-1),.int .i64 64] w fun e w'=>e = .returned (.string ⟨text.toArray⟩)∧Below w.heap.size w w':=by
  have HF:=Lib.hid (iformat_any b c text w ht hc hF)
  clear hF
  go_enter Tryz.func104,Tryz.ntmps104
  go_wp2_with (fail)
  refine HF.out.mono ?_
  rintro e w' ⟨rfl,hb⟩
  go_wp2
  go_ret
  exact ⟨rfl,hb⟩
def pointB (l : List UInt8) : List UInt8:=if 46 ∈ l then l else l ++ [46,48]
theorem pointed_any (l : List UInt8) (w : World) (hl : l.length ≤ 1000000) :
    Calls Tryz.prog 103 #[.string ⟨l.toArray⟩] w fun e w'=>e = .returned (.string ⟨(pointB l).toArray⟩)∧w = w':=by
  have hC:=fun W=>Tryz.strings_Contains_one ⟨l.toArray⟩ 46 W
  by_cases h : 46 ∈ l
  · have e : decide (0 ≤ indexByte (⟨l.toArray⟩ : ByteArray).data.toList 46) = true:=decide_eq_true (by
      have h2:=indexByte_ge l 46
      have h3 : indexByte l 46 ≠ -1:=fun hn=>by
        obtain ⟨k,hk⟩:=List.mem_iff_getElem?.1 h
        exact indexByte_none hn k hk
      show 0 ≤ indexByte l 46
      omega)
    rw [e] at hC
    have HC:=Lib.hid hC
    have hp : pointB l = l:=by unfold pointB; rw [if_pos h]
    rw [hp]
    clear hC e hp h
    go_enter Tryz.func103,Tryz.ntmps103
    go_wp2_with (fail)
    refine (HC.out _).mono ?_
    rintro e w' ⟨rfl,rfl⟩
    go_wp2
    go_ret
    exact ⟨rfl,rfl⟩
  · have e : decide (0 ≤ indexByte (⟨l.toArray⟩ : ByteArray).data.toList 46) = false:=decide_eq_false (by
      show ¬ 0 ≤ indexByte l 46
      intro h0
      obtain ⟨o,ho⟩ : ∃ o : Nat,indexByte l 46 = o:=⟨(indexByte l 46).toNat,by omega⟩
      exact h (List.mem_iff_getElem?.2 ⟨o,(indexByte_some ho).1⟩))
    rw [e] at hC
    have HC:=Lib.hid hC
    have hp : pointB l = l ++ [46,48]:=by unfold pointB; rw [if_neg h]
    have HP:=Lib.hid hp
    have hsz : (⟨l.toArray⟩ : ByteArray).size ≤ 1000000:=by rw [Lib.size_eq]; exact hl
    have hcat : (⟨l.toArray⟩ : ByteArray) ++ ⟨#[46,48]⟩ = ⟨(l ++ [46,48]).toArray⟩:=by
      apply ByteArray.ext
      simp
    have HCAT:=Lib.hid hcat
    generalize hS : (⟨l.toArray⟩ : ByteArray) = S at HC hsz HCAT ⊢
    clear hC e hp h hcat hS
    go_enter Tryz.func103,Tryz.ntmps103
    go_wp2_with (fail)
    refine (HC.out _).mono ?_
    rintro e w' ⟨rfl,rfl⟩
    go_wp2
    go_ret
    refine ⟨?_,rfl⟩
    rw [HP.out,← HCAT.out]
    rfl
theorem abs_bits (b : Nat) (hb : b < 18446744073709551616) : bits .andNot .u64 (b : Int) 9223372036854775808 = ((b % 9223372036854775808 : Nat) : Int):=by
  have h:=u64_andNot_nat b 9223372036854775808 hb (by decide)
  have h2 : b &&& (18446744073709551615 - 9223372036854775808) = b % 2 ^ 63:=Nat.and_two_pow_sub_one_eq_mod b 63
  rw [h2] at h
  exact h
theorem abs_any (b : Nat) (w : World) (hb : b < 18446744073709551616) :
    Calls Tryz.prog 100 #[.float .f64 b] w fun e w'=>e = .returned (.float .f64 (b % 9223372036854775808))∧w = w':=by
  have h1:=run_mbits b
  have h2:=abs_bits b hb
  obtain ⟨a,ha⟩ : ∃ a,b % 9223372036854775808 = a:=⟨_,rfl⟩
  have h3:=run_mfrom a
  rw [ha] at h2 ⊢
  clear ha
  go_enter Tryz.func100,Tryz.ntmps100
  go_wp2
  go_ret
  exact ⟨rfl,rfl⟩
theorem isNaN_any (b : Nat) (w : World) (hb : b < 18446744073709551616) :
    Calls Tryz.prog 101 #[.float .f64 b] w fun e w'=>e = .returned (.bool (decide (nanW b)))∧w = w':=by
  have h1:=order_self b hb
  by_cases h : nanW b
  · rw [if_pos h] at h1
    have h2 : FloatKind.f64.format.order b b = none:=h1
    rw [decide_eq_true h]
    clear h1 h
    go_enter Tryz.func101,Tryz.ntmps101
    go_wp2
    go_ret
    exact ⟨rfl,rfl⟩
  · rw [if_neg h] at h1
    have h2 : FloatKind.f64.format.order b b = some .eq:=h1
    rw [decide_eq_false h]
    clear h1 h
    go_enter Tryz.func101,Tryz.ntmps101
    go_wp2
    go_ret
    exact ⟨rfl,rfl⟩
end LM
end Go.Proofs.YtihbgghlnppkiaaGreatDoor
namespace Go.Proofs.YtihbgghlnppkiaaGreatDoor
open Go Go.RowKit
namespace LM
end LM
namespace LM
end LM
namespace LM
end LM
namespace LM
def canW (b : Nat) : Nat:=if nanW b then 9221120237041090561 else b
theorem bits_any (b : Nat) (w : World) (hb : b < 18446744073709551616) :
    Calls Tryz.prog 92 #[.float .f64 b] w fun e w'=>e = .returned (.int .u64 ((canW b : Nat) : Int))∧w = w':=by
  have N1:=Lib.hid fun W=>isNaN_any b W hb
  have h1:=run_mbits b
  unfold canW
  by_cases h : nanW b
  · rw [if_pos h]
    rw [decide_eq_true h] at N1
    clear h
    go_enter Tryz.func92,Tryz.ntmps92
    go_wp2_with (fail)
    refine (N1.out _).mono ?_
    rintro e w' ⟨rfl,rfl⟩
    go_wp2
    go_ret
    exact ⟨rfl,rfl⟩
  · rw [if_neg h]
    rw [decide_eq_false h] at N1
    clear h
    go_enter Tryz.func92,Tryz.ntmps92
    go_wp2_with (fail)
    refine (N1.out _).mono ?_
    rintro e w' ⟨rfl,rfl⟩
    go_wp2
    go_ret
    exact ⟨rfl,rfl⟩
end LM
end Go.Proofs.YtihbgghlnppkiaaGreatDoor
namespace Go.Proofs.YtihbgghlnppkiaaGreatDoor
open Go Go.Shelf Go.RowKit Go.Sort Go.Lib
namespace LM
abbrev zeros32 : Array Value:=#[Value.int .u8 0,Value.int .u8 0,Value.int .u8 0,Value.int .u8 0,Value.int .u8 0,Value.int .u8 0,Value.int .u8 0,Value.int .u8 0,Value.int .u8 0,Value.int .u8 0,Value.int .u8 0,Value.int .u8 0,Value.int .u8 0,Value.int .u8 0,Value.int .u8 0,Value.int .u8 0,Value.int .u8 0,Value.int .u8 0,Value.int .u8 0,Value.int .u8 0,Value.int .u8 0,Value.int .u8 0,Value.int .u8 0,Value.int .u8 0,Value.int .u8 0,Value.int .u8 0,Value.int .u8 0,Value.int .u8 0,Value.int .u8 0,Value.int .u8 0,Value.int .u8 0,Value.int .u8 0]
theorem zeros32_at (i : Nat) (h : i < 32) : zeros32[i]? = some (.int .u8 0):=by
  have e : zeros32 = Array.replicate 32 (.int .u8 0):=rfl
  rw [e,Array.getElem?_replicate,if_pos h]
theorem holds_zero32 (w : World) (T : TypeId) (nd : Nat) (hs : nd ≤ 32) : Holds enc8 (w.alloc (.cells zeros32 T)) w.heap.size 0 (Array.replicate nd (0 : UInt8)):=fun j hj=>by
  have hj' : j < nd:=by simpa using hj
  refine ⟨?_,World.frozen?_alloc_new _ _ _ _⟩
  rw [World.cell?_alloc_new,Nat.zero_add,zeros32_at _ (by omega),getElem!_pos _ j hj]
  simp
theorem OB.belowW {B : Nat} {W0 : World} {g : Nat} {v : Value} {bs : List UInt8} {w w' : World} (h : OB B W0 g [] v bs w) (hb : Below w.heap.size w w') : OB B W0 g [] v bs w':=by
  obtain ⟨h1,h2,h3,h4⟩:=h
  refine ⟨h1.kept (only_of_below hb none) ?_,h2.trans (hb.mono h3),Nat.le_trans h3 hb.size,.inl rfl⟩
  cases v.ownBlock with
  | none=>exact .inl rfl
  | some k=>exact .inr (by simp)
theorem OB.digits {B : Nat} {W0 : World} {g g0 : Nat} {ds : List UInt8} {v : Value} {bs : List UInt8} {w w' : World} (h : OB B W0 g0 [] v bs w) (hg : w.grownBy w' (some g)) (hv : v.ownBlock ≠ some g) (hB : B ≤ g) (hl : g < w.heap.size) (hd : BufHas w' g ds) : OB B W0 g ds v bs w':=by
  obtain ⟨h1,h2,h3,h4⟩:=h
  exact ⟨h1.kept hg (.inr hv),h2.grown hg h3 (fun k e=>by injection e with e; omega),Nat.le_trans h3 hg.size,.inr ⟨Nat.lt_of_lt_of_le hl hg.size,hv,hd⟩⟩
theorem Holds.belowW {w w' : World} {g : Nat} {d : Array UInt8} (h : Holds enc8 w g 0 d) (hb : Below w.heap.size w w') (hg : g < w.heap.size) : Holds enc8 w' g 0 d:=fun j hj=>by
  obtain ⟨a,b⟩:=h j hj
  exact ⟨(World.cell?_of_block (a:=⟨g,0 + j,none⟩) (hb.block g hg)).trans a,(World.frozen?_of_block (a:=⟨g,0 + j,none⟩) (hb.block g hg)).trans b⟩
theorem ftoaE_any (b : Nat) (neg : Bool) (ex fr mant len s m : Nat) (e p : Int) (d B : Nat) (W0 : World) (v : Value) (w : World) (hb : b < 18446744073709551616) (hob : OB B W0 0 [] v [] w)
    (hneg : (decide (9223372036854775808 ≤ b)) = neg) (hex : b / 4503599627370496 % 2048 = ex) (hfr : b % 4503599627370496 = fr) (hfin : ex < 2047) (h0 : ex ≠ 0)
    (hmant : mant = fr + 4503599627370496) (hlen : Lib.bitLen mant = len) (hs : len + s = 64) (hm : mant * 2 ^ s = m) (hml : m < 18446744073709551616) (he : e = (ex : Int) - 1023 - s - 52)
    (hS : ∀ W,w.heap.size < W.heap.size → Below w.heap.size w W → Calls Tryz.prog 181 #[.int .u64 (m : Int),.int .i64 e] W fun r w'=>r = .returned (.tuple #[.int .u64 (d : Int),.int .i64 p])∧Below W.heap.size W w')
    (htab : Lib.TabIs Tryz.prog w "internal/strconv.uint64pow10" .u64 Lib.pow10Tab) (hd0 : 1 ≤ d) (hd1 : d < 18446744073709551616) (hp : -600 ≤ p ∧ p ≤ 600) (hnz : 1 ≤ nzd (decDigits d)) (hn20 : nDigits d ≤ 20) :
    Calls Tryz.prog 140 #[v,.float .f64 b,.int .u8 101,.int .i64 (-1)] w fun r w' =>
      ∃ v' g,r = .returned v'∧OB B W0 g (decDigits d) v' (fmtE neg ((decDigits d).take (nzd (decDigits d))) ((nDigits d : Int) + p)) w':=by
  obtain ⟨bq,hbq⟩ : ∃ q,b / 4503599627370496 = q:=⟨_,rfl⟩
  have hbqi : (b : Int) / 4503599627370496 = (bq : Int):=by omega
  have hbql : bq < 4096:=by omega
  have hex2 : bits .and .i64 (bq : Int) 2047 = (ex : Int):=by
    have h:=i64_and_nat bq 2047 (by omega) (by decide)
    have h2 : bq &&& 2047 = ex:=by rw [nat_mask11,← hbq,hex]
    rw [h2] at h
    exact h
  have hfr2 : bits .and .u64 (b : Int) 4503599627370495 = (fr : Int):=by
    have h:=u64_and_nat b 4503599627370495 hb (by decide)
    have h2 : b &&& 4503599627370495 = fr:=by
      rw [show b &&& 4503599627370495 = b % 2 ^ 52 from Nat.and_two_pow_sub_one_eq_mod b 52]
      exact hfr
    rw [h2] at h
    exact h
  have hneg2 : ((b : Int) / 9223372036854775808 != 0) = neg:=by
    rw [← hneg]
    by_cases h : 9223372036854775808 ≤ b
    · rw [decide_eq_true h,bne_iff_ne]; omega
    · rw [decide_eq_false h,bne_eq_false_iff_eq]; omega
  have hfrl : fr < 4503599627370496:=by omega
  have hml0 : mant < 9007199254740992:=by omega
  have hm0 : 0 < mant:=by omega
  have hor : bits .or .u64 (fr : Int) 4503599627370496 = (mant : Int):=by
    have h:=u64_or_nat fr 4503599627370496 (by omega) (by decide)
    have h2 : fr ||| 4503599627370496 = mant:=by
      rw [Nat.or_comm,nat_join 52 4503599627370496 fr (by decide) hfrl,Nat.add_comm,hmant]
    rw [h2] at h
    exact h
  have RB:=run_sbits b
  have hL:=fun W=>Tryz.bits_Len64 (mant : Int) W (by omega) (by omega)
  rw [show ((mant : Int)).toNat = mant from Int.toNat_natCast mant,hlen] at hL
  have HLN:=Lib.hid hL
  have hsi : (64 : Int) - (len : Int) = (s : Int):=by omega
  have hs64 : s ≤ 64:=by omega
  have hmin : min s 64 = s:=Nat.min_eq_left hs64
  have hmi : (mant : Int) * 2 ^ s = (m : Int):=by rw [← hm]; push_cast; rfl
  obtain ⟨e0,he0⟩ : ∃ e0 : Int,(ex : Int) - 1023 = e0:=⟨_,rfl⟩
  have he1 : (ex : Int) + -1023 = e0:=by omega
  have hee : e0 - (s : Int) - 52 = e:=by omega
  have heb : -3000 ≤ e0∧e0 ≤ 3000:=by omega
  have hown : ∀ k,v.ownBlock = some k → k < w.heap.size:=fun k hk=>(hob.1.lt k hk).2
  have hBw : B ≤ w.heap.size:=hob.2.2.1
  have hinf : ((ex : Int) == 2047) = false:=by rw [beq_eq_false_iff_ne]; omega
  have hexz : ((ex : Int) == 0) = false:=by rw [beq_eq_false_iff_ne]; omega
  have hmz : ((mant : Int) == 0) = false:=by rw [beq_eq_false_iff_ne]; omega
  obtain ⟨n,hnn⟩ : ∃ n,nDigits d = n:=⟨_,rfl⟩
  obtain ⟨ds,hds⟩ : ∃ ds,decDigits d = ds:=⟨_,rfl⟩
  obtain ⟨nd,hnd⟩ : ∃ nd,nzd ds = nd:=⟨_,rfl⟩
  have hdl : ds.length = n:=by rw [← hds,← hnn]; exact decDigits_length d
  have hndl : nd ≤ ds.length:=by rw [← hnd]; exact nzd_le ds
  have hn1 : n ≤ 20:=by omega
  rw [hds,hnd] at hnz
  have HNM : Hid (∀ W, Lib.TabIs Tryz.prog W "internal/strconv.uint64pow10" .u64 Lib.pow10Tab → Calls Tryz.prog 155 #[.int .u64 (d : Int)] W fun e w' => e = .returned (.int .i64 (n : Int)) ∧ w' = W) := Lib.hid fun W h => by
    have h2:=Tryz.internal_strconv_numDigits d hd0 hd1 W h
    rw [hnn] at h2
    exact h2
  have HSD : Hid (∀ g W,Holds enc8 W g 0 (Array.replicate n 0) → Calls Tryz.prog 175 #[.slice (some ⟨g,0,none⟩) 32 32,.int .u64 (d : Int),.int .i64 p,.int .i64 (n : Int)] W fun e w' =>
      e = .returned (.tuple #[.int .i64 ((n : Int) + p),.int .i64 (nd : Int)])∧BufHas w' g ds∧W.grownBy w' (some g)):=Lib.hid fun g W h=>by
    have h2:=setDigits_any g d p W hd1 (by rw [hnn]; exact h) (by omega) (by omega)
    rw [hnn,hds,hnd] at h2
    exact h2
  rw [hds,hnn,hnd]
  have HSS:=Lib.hid hS
  have HTB:=Lib.hid htab
  have HOB:=Lib.hid hob
  have HOWN:=Lib.hid hown
  have HND:=Lib.hid hnd
  have HDL:=Lib.hid hdl
  clear hneg hex hfr hmant hlen hs hm he he0 hS htab hob hbq hL hown hnn hds hnd hdl hn20
  go_enter Tryz.func140,Tryz.ntmps140
  go_wp2_with (fail)
  go_quiet (fail)
  go_wp2_with (fail)
  have hH1:=fun k (hk : k ≤ 32)=>holds_zero32 (w.drewN nq) 233 k hk
  have hO1:=(HOB.out.drewN nq).alloc (.cells zeros32 233)
  have hB1 : Below w.heap.size w ((w.drewN nq).alloc (.cells zeros32 233)):=(below_drewN (Below.refl _ w) nq).alloc (Nat.le_refl _) _
  have hZ1 : ((w.drewN nq).alloc (.cells zeros32 233)).heap.size = w.heap.size + 1:=by simp
  change Calls Tryz.prog _ _ ((w.drewN nq).alloc (.cells zeros32 233)) _
  generalize (w.drewN nq).alloc (.cells zeros32 233) = W1 at hH1 hO1 hB1 hZ1 ⊢
  have hT1:=tab_below HTB.out hB1
  have HH1 : Hid (Holds enc8 W1 w.heap.size 0 (Array.replicate n 0)):=Lib.hid (hH1 n (by omega))
  have HO1:=Lib.hid hO1
  have HB1:=Lib.hid hB1
  have HZ1:=Lib.hid hZ1
  have HT1:=Lib.hid hT1
  clear hH1 hO1 hB1 hZ1 hT1
  refine (HLN.out W1).mono ?_
  rintro r w' ⟨rfl,rfl⟩
  go_wp2_with (fail)
  refine (HSS.out _ (by rw [HZ1.out]; omega) HB1.out).mono ?_
  rintro r w2 ⟨rfl,hb2⟩
  have HH2:=Lib.hid (Holds.belowW HH1.out hb2 (by rw [HZ1.out]; omega))
  have HO2:=Lib.hid (HO1.out.belowW hb2)
  have hz2 : w.heap.size < w2.heap.size:=by have h1:=HZ1.out; have h2:=hb2.size; omega
  have HZ2:=Lib.hid hz2
  have HT2:=Lib.hid (tab_below HT1.out hb2)
  clear hb2 hz2
  go_wp2_with (fail)
  have HNM2 : Hid (∀ W,W.heap = w2.heap → Calls Tryz.prog 155 #[.int .u64 (d : Int)] W fun e w'=>e = .returned (.int .i64 (n : Int))∧w' = W):=Lib.hid fun W h=>HNM.out W (by
    have h2:=HT2.out
    unfold Lib.TabIs World.var? at h2 ⊢
    rw [h]
    exact h2)
  have HSD2 : Hid (∀ W,W.heap = w2.heap → Calls Tryz.prog 175 #[.slice (some ⟨w.heap.size,0,none⟩) 32 32,.int .u64 (d : Int),.int .i64 p,.int .i64 (n : Int)] W fun e w' =>
      e = .returned (.tuple #[.int .i64 ((n : Int) + p),.int .i64 (nd : Int)])∧BufHas w' w.heap.size ds∧W.grownBy w' (some w.heap.size)):=Lib.hid fun W h=>HSD.out w.heap.size W fun j hj=>by
    obtain ⟨a,b⟩:=HH2.out j hj
    refine ⟨?_,?_⟩
    · rw [← a]; simp [World.cell?,h]
    · rw [← b]; simp [World.frozen?,h]
  go_cut [22,23] (fun x y wx=>x = .int .i64 ((n : Int) + p)∧y = .int .i64 (nd : Int)∧OB B W0 w.heap.size ds v [] wx)
  case first =>
    go_region_with (first
      | (go_at_call 155; refine (HNM2.out _ (by rfl)).mono ?_; rintro r w' ⟨rfl,rfl⟩)
      | (go_at_call 175; refine (HSD2.out _ (by rfl)).mono ?_; rintro r w3 ⟨rfl,hbf,hg⟩))
    all_goals
      go_wp2_with (fail)
      go_meet
      case rel =>
        refine ⟨rfl,rfl,?_⟩
        have hv : v.ownBlock ≠ some w.heap.size:=fun e=>Nat.lt_irrefl _ (HOWN.out _ e)
        first
          | exact HO2.out.digits hg hv hBw HZ2.out hbf
          | exact (HO2.out.drewN 1).digits hg hv hBw HZ2.out hbf
          | exact (HO2.out.drewN 2).digits hg hv hBw HZ2.out hbf
          | exact (HO2.out.drewN 3).digits hg hv hBw HZ2.out hbf
          | exact (HO2.out.drewN 4).digits hg hv hBw HZ2.out hbf
  case rest =>
    obtain ⟨rfl,rfl,hob3⟩:=hcut
    have HO3:=Lib.hid hob3
    have hdl20 : ds.length ≤ 32:=by rw [HDL.out]; omega
    have hq : (max ((nd : Int) - 1) 0) = (nd : Int) - 1:=by omega
    clear hob3 HO2 HH2 HO1 HH1
    go_wp2_with (fail)
    refine (fmtE_any B W0 w.heap.size ds v [] wc neg ((n : Int) + p) nd HO3.out (by decide) hnz hndl hdl20 (by omega)).mono ?_
    rintro r w4 ⟨v4,rfl,hob4⟩
    go_wp2
    go_ret
    exact ⟨_,_,rfl,hob4⟩
end LM
namespace LM
theorem ftoaF_any (b : Nat) (neg : Bool) (ex fr mant len s m : Nat) (e p : Int) (d B : Nat) (W0 : World) (v : Value) (w : World) (hb : b < 18446744073709551616) (hob : OB B W0 0 [] v [] w)
    (hneg : (decide (9223372036854775808 ≤ b)) = neg) (hex : b / 4503599627370496 % 2048 = ex) (hfr : b % 4503599627370496 = fr) (hfin : ex < 2047) (h0 : ex ≠ 0)
    (hmant : mant = fr + 4503599627370496) (hlen : Lib.bitLen mant = len) (hs : len + s = 64) (hm : mant * 2 ^ s = m) (hml : m < 18446744073709551616) (he : e = (ex : Int) - 1023 - s - 52)
    (hS : ∀ W,w.heap.size < W.heap.size → Below w.heap.size w W → Calls Tryz.prog 181 #[.int .u64 (m : Int),.int .i64 e] W fun r w'=>r = .returned (.tuple #[.int .u64 (d : Int),.int .i64 p])∧Below W.heap.size W w')
    (htab : Lib.TabIs Tryz.prog w "internal/strconv.uint64pow10" .u64 Lib.pow10Tab) (hd0 : 1 ≤ d) (hd1 : d < 18446744073709551616) (hp : -600 ≤ p ∧ p ≤ 600) (hnz : 1 ≤ nzd (decDigits d)) (hn20 : nDigits d ≤ 20) :
    Calls Tryz.prog 140 #[v,.float .f64 b,.int .u8 102,.int .i64 (-1)] w fun r w' =>
      ∃ v' g,r = .returned v'∧OB B W0 g (decDigits d) v' (fmtF neg ((decDigits d).take (nzd (decDigits d))) ((nDigits d : Int) + p)) w':=by
  obtain ⟨bq,hbq⟩ : ∃ q,b / 4503599627370496 = q:=⟨_,rfl⟩
  have hbqi : (b : Int) / 4503599627370496 = (bq : Int):=by omega
  have hbql : bq < 4096:=by omega
  have hex2 : bits .and .i64 (bq : Int) 2047 = (ex : Int):=by
    have h:=i64_and_nat bq 2047 (by omega) (by decide)
    have h2 : bq &&& 2047 = ex:=by rw [nat_mask11,← hbq,hex]
    rw [h2] at h
    exact h
  have hfr2 : bits .and .u64 (b : Int) 4503599627370495 = (fr : Int):=by
    have h:=u64_and_nat b 4503599627370495 hb (by decide)
    have h2 : b &&& 4503599627370495 = fr:=by
      rw [show b &&& 4503599627370495 = b % 2 ^ 52 from Nat.and_two_pow_sub_one_eq_mod b 52]
      exact hfr
    rw [h2] at h
    exact h
  have hneg2 : ((b : Int) / 9223372036854775808 != 0) = neg:=by
    rw [← hneg]
    by_cases h : 9223372036854775808 ≤ b
    · rw [decide_eq_true h,bne_iff_ne]; omega
    · rw [decide_eq_false h,bne_eq_false_iff_eq]; omega
  have hfrl : fr < 4503599627370496:=by omega
  have hml0 : mant < 9007199254740992:=by omega
  have hm0 : 0 < mant:=by omega
  have hor : bits .or .u64 (fr : Int) 4503599627370496 = (mant : Int):=by
    have h:=u64_or_nat fr 4503599627370496 (by omega) (by decide)
    have h2 : fr ||| 4503599627370496 = mant:=by
      rw [Nat.or_comm,nat_join 52 4503599627370496 fr (by decide) hfrl,Nat.add_comm,hmant]
    rw [h2] at h
    exact h
  have RB:=run_sbits b
  have hL:=fun W=>Tryz.bits_Len64 (mant : Int) W (by omega) (by omega)
  rw [show ((mant : Int)).toNat = mant from Int.toNat_natCast mant,hlen] at hL
  have HLN:=Lib.hid hL
  have hsi : (64 : Int) - (len : Int) = (s : Int):=by omega
  have hs64 : s ≤ 64:=by omega
  have hmin : min s 64 = s:=Nat.min_eq_left hs64
  have hmi : (mant : Int) * 2 ^ s = (m : Int):=by rw [← hm]; push_cast; rfl
  obtain ⟨e0,he0⟩ : ∃ e0 : Int,(ex : Int) - 1023 = e0:=⟨_,rfl⟩
  have he1 : (ex : Int) + -1023 = e0:=by omega
  have hee : e0 - (s : Int) - 52 = e:=by omega
  have heb : -3000 ≤ e0∧e0 ≤ 3000:=by omega
  have hown : ∀ k,v.ownBlock = some k → k < w.heap.size:=fun k hk=>(hob.1.lt k hk).2
  have hBw : B ≤ w.heap.size:=hob.2.2.1
  have hinf : ((ex : Int) == 2047) = false:=by rw [beq_eq_false_iff_ne]; omega
  have hexz : ((ex : Int) == 0) = false:=by rw [beq_eq_false_iff_ne]; omega
  have hmz : ((mant : Int) == 0) = false:=by rw [beq_eq_false_iff_ne]; omega
  obtain ⟨n,hnn⟩ : ∃ n,nDigits d = n:=⟨_,rfl⟩
  obtain ⟨ds,hds⟩ : ∃ ds,decDigits d = ds:=⟨_,rfl⟩
  obtain ⟨nd,hnd⟩ : ∃ nd,nzd ds = nd:=⟨_,rfl⟩
  have hdl : ds.length = n:=by rw [← hds,← hnn]; exact decDigits_length d
  have hndl : nd ≤ ds.length:=by rw [← hnd]; exact nzd_le ds
  have hn1 : n ≤ 20:=by omega
  rw [hds,hnd] at hnz
  have HNM : Hid (∀ W, Lib.TabIs Tryz.prog W "internal/strconv.uint64pow10" .u64 Lib.pow10Tab → Calls Tryz.prog 155 #[.int .u64 (d : Int)] W fun e w' => e = .returned (.int .i64 (n : Int)) ∧ w' = W) := Lib.hid fun W h => by
    have h2:=Tryz.internal_strconv_numDigits d hd0 hd1 W h
    rw [hnn] at h2
    exact h2
  have HSD : Hid (∀ g W,Holds enc8 W g 0 (Array.replicate n 0) → Calls Tryz.prog 175 #[.slice (some ⟨g,0,none⟩) 32 32,.int .u64 (d : Int),.int .i64 p,.int .i64 (n : Int)] W fun e w' =>
      e = .returned (.tuple #[.int .i64 ((n : Int) + p),.int .i64 (nd : Int)])∧BufHas w' g ds∧W.grownBy w' (some g)):=Lib.hid fun g W h=>by
    have h2:=setDigits_any g d p W hd1 (by rw [hnn]; exact h) (by omega) (by omega)
    rw [hnn,hds,hnd] at h2
    exact h2
  rw [hds,hnn,hnd]
  have HSS:=Lib.hid hS
  have HTB:=Lib.hid htab
  have HOB:=Lib.hid hob
  have HOWN:=Lib.hid hown
  have HND:=Lib.hid hnd
  have HDL:=Lib.hid hdl
  clear hneg hex hfr hmant hlen hs hm he he0 hS htab hob hbq hL hown hnn hds hnd hdl hn20
  go_enter Tryz.func140,Tryz.ntmps140
  go_wp2_with (fail)
  go_quiet (fail)
  go_wp2_with (fail)
  have hH1:=fun k (hk : k ≤ 32)=>holds_zero32 (w.drewN nq) 233 k hk
  have hO1:=(HOB.out.drewN nq).alloc (.cells zeros32 233)
  have hB1 : Below w.heap.size w ((w.drewN nq).alloc (.cells zeros32 233)):=(below_drewN (Below.refl _ w) nq).alloc (Nat.le_refl _) _
  have hZ1 : ((w.drewN nq).alloc (.cells zeros32 233)).heap.size = w.heap.size + 1:=by simp
  change Calls Tryz.prog _ _ ((w.drewN nq).alloc (.cells zeros32 233)) _
  generalize (w.drewN nq).alloc (.cells zeros32 233) = W1 at hH1 hO1 hB1 hZ1 ⊢
  have hT1:=tab_below HTB.out hB1
  have HH1 : Hid (Holds enc8 W1 w.heap.size 0 (Array.replicate n 0)):=Lib.hid (hH1 n (by omega))
  have HO1:=Lib.hid hO1
  have HB1:=Lib.hid hB1
  have HZ1:=Lib.hid hZ1
  have HT1:=Lib.hid hT1
  clear hH1 hO1 hB1 hZ1 hT1
  refine (HLN.out W1).mono ?_
  rintro r w' ⟨rfl,rfl⟩
  go_wp2_with (fail)
  refine (HSS.out _ (by rw [HZ1.out]; omega) HB1.out).mono ?_
  rintro r w2 ⟨rfl,hb2⟩
  have HH2:=Lib.hid (Holds.belowW HH1.out hb2 (by rw [HZ1.out]; omega))
  have HO2:=Lib.hid (HO1.out.belowW hb2)
  have hz2 : w.heap.size < w2.heap.size:=by have h1:=HZ1.out; have h2:=hb2.size; omega
  have HZ2:=Lib.hid hz2
  have HT2:=Lib.hid (tab_below HT1.out hb2)
  clear hb2 hz2
  go_wp2_with (fail)
  have HNM2 : Hid (∀ W,W.heap = w2.heap → Calls Tryz.prog 155 #[.int .u64 (d : Int)] W fun e w'=>e = .returned (.int .i64 (n : Int))∧w' = W):=Lib.hid fun W h=>HNM.out W (by
    have h2:=HT2.out
    unfold Lib.TabIs World.var? at h2 ⊢
    rw [h]
    exact h2)
  have HSD2 : Hid (∀ W,W.heap = w2.heap → Calls Tryz.prog 175 #[.slice (some ⟨w.heap.size,0,none⟩) 32 32,.int .u64 (d : Int),.int .i64 p,.int .i64 (n : Int)] W fun e w' =>
      e = .returned (.tuple #[.int .i64 ((n : Int) + p),.int .i64 (nd : Int)])∧BufHas w' w.heap.size ds∧W.grownBy w' (some w.heap.size)):=Lib.hid fun W h=>HSD.out w.heap.size W fun j hj=>by
    obtain ⟨a,b⟩:=HH2.out j hj
    refine ⟨?_,?_⟩
    · rw [← a]; simp [World.cell?,h]
    · rw [← b]; simp [World.frozen?,h]
  go_cut [22,23] (fun x y wx=>x = .int .i64 ((n : Int) + p)∧y = .int .i64 (nd : Int)∧OB B W0 w.heap.size ds v [] wx)
  case first =>
    go_region_with (first
      | (go_at_call 155; refine (HNM2.out _ (by rfl)).mono ?_; rintro r w' ⟨rfl,rfl⟩)
      | (go_at_call 175; refine (HSD2.out _ (by rfl)).mono ?_; rintro r w3 ⟨rfl,hbf,hg⟩))
    all_goals
      go_wp2_with (fail)
      go_meet
      case rel =>
        refine ⟨rfl,rfl,?_⟩
        have hv : v.ownBlock ≠ some w.heap.size:=fun e=>Nat.lt_irrefl _ (HOWN.out _ e)
        first
          | exact HO2.out.digits hg hv hBw HZ2.out hbf
          | exact (HO2.out.drewN 1).digits hg hv hBw HZ2.out hbf
          | exact (HO2.out.drewN 2).digits hg hv hBw HZ2.out hbf
          | exact (HO2.out.drewN 3).digits hg hv hBw HZ2.out hbf
          | exact (HO2.out.drewN 4).digits hg hv hBw HZ2.out hbf
  case rest =>
    obtain ⟨rfl,rfl,hob3⟩:=hcut
    have HO3:=Lib.hid hob3
    have hdl20 : ds.length ≤ 32:=by rw [HDL.out]; omega
    obtain ⟨pr,hpr⟩ : ∃ pr,max ((nd : Int) - ((n : Int) + p)) 0 = pr:=⟨_,rfl⟩
    have FF:=Lib.hid (fmtF_any B W0 w.heap.size ds v [] wc neg ((n : Int) + p) pr nd hob3 (by decide) hndl hdl20 (by omega) hpr.symm)
    clear hob3 HO2 HH2 HO1 HH1
    go_wp2_with (fail)
    refine FF.out.mono ?_
    rintro r w4 ⟨v4,rfl,hob4⟩
    go_wp2
    go_ret
    exact ⟨_,_,rfl,hob4⟩
end LM
namespace LM
def f64Rows : List Nat:=[4607182418800017408,4621819117588971520,4636737291354636288,4652007308841189376,4666723172467343360,4681608360884174848,4696837146684686336,4711630319722168320,4726483295884279808,4741671816366391296,4756540486875873280,4771362005757984768,4786511204640096256,4801453603149578240,4816244402031689728,4831355200913801216,4846369599423283200,4861130398305394688,4876203697187506176,4891288408196988160,4906019910204099648,4921056587992461136,4936209963552724370]
structure FV (w : World) : Prop where
  pow : PTab w
  tab : Lib.TabIs Tryz.prog w "internal/strconv.uint64pow10" .u64 Lib.pow10Tab
  info : w.cell? ⟨16,0,none⟩ = some (.int .u64 52)
  opt : w.cell? ⟨5,0,none⟩ = some (.bool true)
  f64 : ∃ b n c,w.cell? ⟨19,0,none⟩ = some (.slice (some ⟨b,n,none⟩) 23 c)∧b < w.heap.size∧∀ j x,f64Rows[j]? = some x → w.cell? ⟨b,n + j,none⟩ = some (.float .f64 x)
  size : 16 < w.heap.size∧5 < w.heap.size∧19 < w.heap.size∧11 < w.heap.size
theorem FV.below {w w' : World} (h : FV w) (hb : Below w.heap.size w w') : FV w':=by
  have hc : ∀ g i v,g < w.heap.size → w.cell? ⟨g,i,none⟩ = some v → w'.cell? ⟨g,i,none⟩ = some v:=fun g i v hg hv =>
    (World.cell?_of_block (a:=⟨g,i,none⟩) (hb.block g hg)).trans hv
  obtain ⟨b,n,c,h1,h2,h3⟩:=h.f64
  refine ⟨fun i x hx=>⟨hc _ _ _ h.size.2.2.2 (h.pow i x hx).1,hc _ _ _ h.size.2.2.2 (h.pow i x hx).2⟩,tab_below h.tab hb,hc _ _ _ h.size.1 h.info,hc _ _ _ h.size.2.1 h.opt,
    ⟨b,n,c,hc _ _ _ h.size.2.2.1 h1,Nat.lt_of_lt_of_le h2 hb.size,fun j x hx=>hc _ _ _ h2 (h3 j x hx)⟩,?_⟩
  have:=hb.size
  obtain ⟨a1,a2,a3,a4⟩:=h.size
  exact ⟨by omega,by omega,by omega,by omega⟩
end LM
namespace LM
theorem ftoaE_sub (b : Nat) (neg : Bool) (ex fr mant len s m : Nat) (e p : Int) (d B : Nat) (W0 : World) (v : Value) (w : World) (hb : b < 18446744073709551616) (hob : OB B W0 0 [] v [] w)
    (hneg : (decide (9223372036854775808 ≤ b)) = neg) (hex : b / 4503599627370496 % 2048 = ex) (hfr : b % 4503599627370496 = fr) (hfin : ex < 2047) (h0 : ex = 0) (hfr0 : fr ≠ 0)
    (hmant : mant = fr) (hlen : Lib.bitLen mant = len) (hs : len + s = 64) (hm : mant * 2 ^ s = m) (hml : m < 18446744073709551616) (he : e = -1022 - (s : Int) - 52)
    (hS : ∀ W,w.heap.size < W.heap.size → Below w.heap.size w W → Calls Tryz.prog 181 #[.int .u64 (m : Int),.int .i64 e] W fun r w'=>r = .returned (.tuple #[.int .u64 (d : Int),.int .i64 p])∧Below W.heap.size W w')
    (htab : Lib.TabIs Tryz.prog w "internal/strconv.uint64pow10" .u64 Lib.pow10Tab) (hd0 : 1 ≤ d) (hd1 : d < 18446744073709551616) (hp : -600 ≤ p ∧ p ≤ 600) (hnz : 1 ≤ nzd (decDigits d)) (hn20 : nDigits d ≤ 20) :
    Calls Tryz.prog 140 #[v,.float .f64 b,.int .u8 101,.int .i64 (-1)] w fun r w' =>
      ∃ v' g,r = .returned v'∧OB B W0 g (decDigits d) v' (fmtE neg ((decDigits d).take (nzd (decDigits d))) ((nDigits d : Int) + p)) w':=by
  obtain ⟨bq,hbq⟩ : ∃ q,b / 4503599627370496 = q:=⟨_,rfl⟩
  have hbqi : (b : Int) / 4503599627370496 = (bq : Int):=by omega
  have hbql : bq < 4096:=by omega
  have hex2 : bits .and .i64 (bq : Int) 2047 = (ex : Int):=by
    have h:=i64_and_nat bq 2047 (by omega) (by decide)
    have h2 : bq &&& 2047 = ex:=by rw [nat_mask11,← hbq,hex]
    rw [h2] at h
    exact h
  have hfr2 : bits .and .u64 (b : Int) 4503599627370495 = (fr : Int):=by
    have h:=u64_and_nat b 4503599627370495 hb (by decide)
    have h2 : b &&& 4503599627370495 = fr:=by
      rw [show b &&& 4503599627370495 = b % 2 ^ 52 from Nat.and_two_pow_sub_one_eq_mod b 52]
      exact hfr
    rw [h2] at h
    exact h
  have hneg2 : ((b : Int) / 9223372036854775808 != 0) = neg:=by
    rw [← hneg]
    by_cases h : 9223372036854775808 ≤ b
    · rw [decide_eq_true h,bne_iff_ne]; omega
    · rw [decide_eq_false h,bne_eq_false_iff_eq]; omega
  have hfrl : fr < 4503599627370496:=by omega
  have hml0 : mant < 9007199254740992:=by omega
  have hm0 : 0 < mant:=by omega
  have RB:=run_sbits b
  have hL:=fun W=>Tryz.bits_Len64 (mant : Int) W (by omega) (by omega)
  rw [show ((mant : Int)).toNat = mant from Int.toNat_natCast mant,hlen] at hL
  have HLN:=Lib.hid hL
  have hsi : (64 : Int) - (len : Int) = (s : Int):=by omega
  have hs64 : s ≤ 64:=by omega
  have hmin : min s 64 = s:=Nat.min_eq_left hs64
  have hmi : (mant : Int) * 2 ^ s = (m : Int):=by rw [← hm]; push_cast; rfl
  obtain ⟨e0,he0⟩ : ∃ e0 : Int,(ex : Int) - 1022 = e0:=⟨_,rfl⟩
  have he1 : (ex : Int) + 1 + -1023 = e0:=by omega
  have hee : e0 - (s : Int) - 52 = e:=by omega
  have heb : -3000 ≤ e0∧e0 ≤ 3000:=by omega
  have hown : ∀ k,v.ownBlock = some k → k < w.heap.size:=fun k hk=>(hob.1.lt k hk).2
  have hBw : B ≤ w.heap.size:=hob.2.2.1
  have hinf : ((ex : Int) == 2047) = false:=by rw [beq_eq_false_iff_ne]; omega
  have hexz : ((ex : Int) == 0) = true:=by rw [beq_iff_eq]; omega
  subst hmant
  have hmz : ((mant : Int) == 0) = false:=by rw [beq_eq_false_iff_ne]; omega
  obtain ⟨n,hnn⟩ : ∃ n,nDigits d = n:=⟨_,rfl⟩
  obtain ⟨ds,hds⟩ : ∃ ds,decDigits d = ds:=⟨_,rfl⟩
  obtain ⟨nd,hnd⟩ : ∃ nd,nzd ds = nd:=⟨_,rfl⟩
  have hdl : ds.length = n:=by rw [← hds,← hnn]; exact decDigits_length d
  have hndl : nd ≤ ds.length:=by rw [← hnd]; exact nzd_le ds
  have hn1 : n ≤ 20:=by omega
  rw [hds,hnd] at hnz
  have HNM : Hid (∀ W, Lib.TabIs Tryz.prog W "internal/strconv.uint64pow10" .u64 Lib.pow10Tab → Calls Tryz.prog 155 #[.int .u64 (d : Int)] W fun e w' => e = .returned (.int .i64 (n : Int)) ∧ w' = W) := Lib.hid fun W h => by
    have h2:=Tryz.internal_strconv_numDigits d hd0 hd1 W h
    rw [hnn] at h2
    exact h2
  have HSD : Hid (∀ g W,Holds enc8 W g 0 (Array.replicate n 0) → Calls Tryz.prog 175 #[.slice (some ⟨g,0,none⟩) 32 32,.int .u64 (d : Int),.int .i64 p,.int .i64 (n : Int)] W fun e w' =>
      e = .returned (.tuple #[.int .i64 ((n : Int) + p),.int .i64 (nd : Int)])∧BufHas w' g ds∧W.grownBy w' (some g)):=Lib.hid fun g W h=>by
    have h2:=setDigits_any g d p W hd1 (by rw [hnn]; exact h) (by omega) (by omega)
    rw [hnn,hds,hnd] at h2
    exact h2
  rw [hds,hnn,hnd]
  have HSS:=Lib.hid hS
  have HTB:=Lib.hid htab
  have HOB:=Lib.hid hob
  have HOWN:=Lib.hid hown
  have HND:=Lib.hid hnd
  have HDL:=Lib.hid hdl
  clear hneg hex hfr hlen h0 hfr0 hs hm he he0 hS htab hob hbq hL hown hnn hds hnd hdl hn20
  go_enter Tryz.func140,Tryz.ntmps140
  go_wp2_with (fail)
  go_quiet (fail)
  go_wp2_with (fail)
  have hH1:=fun k (hk : k ≤ 32)=>holds_zero32 (w.drewN nq) 233 k hk
  have hO1:=(HOB.out.drewN nq).alloc (.cells zeros32 233)
  have hB1 : Below w.heap.size w ((w.drewN nq).alloc (.cells zeros32 233)):=(below_drewN (Below.refl _ w) nq).alloc (Nat.le_refl _) _
  have hZ1 : ((w.drewN nq).alloc (.cells zeros32 233)).heap.size = w.heap.size + 1:=by simp
  change Calls Tryz.prog _ _ ((w.drewN nq).alloc (.cells zeros32 233)) _
  generalize (w.drewN nq).alloc (.cells zeros32 233) = W1 at hH1 hO1 hB1 hZ1 ⊢
  have hT1:=tab_below HTB.out hB1
  have HH1 : Hid (Holds enc8 W1 w.heap.size 0 (Array.replicate n 0)):=Lib.hid (hH1 n (by omega))
  have HO1:=Lib.hid hO1
  have HB1:=Lib.hid hB1
  have HZ1:=Lib.hid hZ1
  have HT1:=Lib.hid hT1
  clear hH1 hO1 hB1 hZ1 hT1
  refine (HLN.out W1).mono ?_
  rintro r w' ⟨rfl,rfl⟩
  go_wp2_with (fail)
  refine (HSS.out _ (by rw [HZ1.out]; omega) HB1.out).mono ?_
  rintro r w2 ⟨rfl,hb2⟩
  have HH2:=Lib.hid (Holds.belowW HH1.out hb2 (by rw [HZ1.out]; omega))
  have HO2:=Lib.hid (HO1.out.belowW hb2)
  have hz2 : w.heap.size < w2.heap.size:=by have h1:=HZ1.out; have h2:=hb2.size; omega
  have HZ2:=Lib.hid hz2
  have HT2:=Lib.hid (tab_below HT1.out hb2)
  clear hb2 hz2
  go_wp2_with (fail)
  have HNM2 : Hid (∀ W,W.heap = w2.heap → Calls Tryz.prog 155 #[.int .u64 (d : Int)] W fun e w'=>e = .returned (.int .i64 (n : Int))∧w' = W):=Lib.hid fun W h=>HNM.out W (by
    have h2:=HT2.out
    unfold Lib.TabIs World.var? at h2 ⊢
    rw [h]
    exact h2)
  have HSD2 : Hid (∀ W,W.heap = w2.heap → Calls Tryz.prog 175 #[.slice (some ⟨w.heap.size,0,none⟩) 32 32,.int .u64 (d : Int),.int .i64 p,.int .i64 (n : Int)] W fun e w' =>
      e = .returned (.tuple #[.int .i64 ((n : Int) + p),.int .i64 (nd : Int)])∧BufHas w' w.heap.size ds∧W.grownBy w' (some w.heap.size)):=Lib.hid fun W h=>HSD.out w.heap.size W fun j hj=>by
    obtain ⟨a,b⟩:=HH2.out j hj
    refine ⟨?_,?_⟩
    · rw [← a]; simp [World.cell?,h]
    · rw [← b]; simp [World.frozen?,h]
  go_cut [22,23] (fun x y wx=>x = .int .i64 ((n : Int) + p)∧y = .int .i64 (nd : Int)∧OB B W0 w.heap.size ds v [] wx)
  case first =>
    go_region_with (first
      | (go_at_call 155; refine (HNM2.out _ (by rfl)).mono ?_; rintro r w' ⟨rfl,rfl⟩)
      | (go_at_call 175; refine (HSD2.out _ (by rfl)).mono ?_; rintro r w3 ⟨rfl,hbf,hg⟩))
    all_goals
      go_wp2_with (fail)
      go_meet
      case rel =>
        refine ⟨rfl,rfl,?_⟩
        have hv : v.ownBlock ≠ some w.heap.size:=fun e=>Nat.lt_irrefl _ (HOWN.out _ e)
        first
          | exact HO2.out.digits hg hv hBw HZ2.out hbf
          | exact (HO2.out.drewN 1).digits hg hv hBw HZ2.out hbf
          | exact (HO2.out.drewN 2).digits hg hv hBw HZ2.out hbf
          | exact (HO2.out.drewN 3).digits hg hv hBw HZ2.out hbf
          | exact (HO2.out.drewN 4).digits hg hv hBw HZ2.out hbf
  case rest =>
    obtain ⟨rfl,rfl,hob3⟩:=hcut
    have HO3:=Lib.hid hob3
    have hdl20 : ds.length ≤ 32:=by rw [HDL.out]; omega
    have hq : (max ((nd : Int) - 1) 0) = (nd : Int) - 1:=by omega
    clear hob3 HO2 HH2 HO1 HH1
    go_wp2_with (fail)
    refine (fmtE_any B W0 w.heap.size ds v [] wc neg ((n : Int) + p) nd HO3.out (by decide) hnz hndl hdl20 (by omega)).mono ?_
    rintro r w4 ⟨v4,rfl,hob4⟩
    go_wp2
    go_ret
    exact ⟨_,_,rfl,hob4⟩
end LM
namespace LM
theorem wrap_nat (z : Int) : ∃ X : Nat,IntKind.u64.wrap z = (X : Int)∧X < 18446744073709551616:=by
  refine ⟨(z % 18446744073709551616).toNat,?_,by omega⟩
  rw [IntKind.wrap_u64]
  omega
theorem or_nat (a b : Int) : ∃ X : Nat,bits .or .u64 a b = (X : Int)∧X < 18446744073709551616:=wrap_nat _
theorem and_nat (a b : Int) : ∃ X : Nat,bits .and .u64 a b = (X : Int)∧X < 18446744073709551616:=wrap_nat _
theorem andNot_nat (a b : Int) : ∃ X : Nat,bits .andNot .u64 a b = (X : Int)∧X < 18446744073709551616:=wrap_nat _
def ErrR (er : Value) : Prop:=er = .nilIface ∨ er = .iface 207 (.int .i64 1)
theorem pack_any (m : Nat) (e : Int) (hm : m < 18446744073709551616) (h0 : -1074 ≤ e) (h1 : e ≤ 3000) : ∃ (f : Nat) (er : Value),ErrR er∧∀ w,Calls Tryz.prog 248 #[.int .u64 (m : Int),.int .i64 e] w fun r w'=>r = .returned (.tuple #[.float .f64 f,er])∧w = w':=by
  obtain ⟨A,hA,hA2⟩:=and_nat m 4503599627370496
  by_cases hz : A = 0
  · subst hz
    refine ⟨m,.nilIface,.inl rfl,fun w=>?_⟩
    have f1 : ∀ W,(callFunc 240 #[.int .u64 (m : Int)]).run Tryz.prog W = .ok (.value (.float .f64 m)) W:=fun W=>run_sfrom m W
    have hA3 : bits .and .u64 (m : Int) 4503599627370496 = 0:=hA
    clear hA
    go_enter Tryz.func248,Tryz.ntmps248
    go_wp2_with (fail)
    go_returns
    exact ⟨rfl,rfl⟩
  · have dA : ((A : Int) == 0) = false:=by simpa using (by omega : ¬ (A : Int) = 0)
    by_cases he : 972 ≤ e
    · obtain ⟨X1,hX1,_⟩:=and_nat m 9223372036854775808
      obtain ⟨X2,hX2,_⟩:=or_nat X1 9218868437227405312
      refine ⟨X2,_,.inr rfl,fun w=>?_⟩
      have f1 : ∀ W,(callFunc 240 #[.int .u64 (X2 : Int)]).run Tryz.prog W = .ok (.value (.float .f64 X2)) W:=fun W=>run_sfrom X2 W
      have de : decide (972 ≤ e) = true:=decide_eq_true he
      clear hz
      go_enter Tryz.func248,Tryz.ntmps248
      go_wp2_with (fail)
      go_returns
      exact ⟨rfl,rfl⟩
    · obtain ⟨X3,hX3,_⟩:=andNot_nat m 4503599627370496
      obtain ⟨y,hy⟩ : ∃ y : Nat,1075 + e = (y : Int):=⟨(1075 + e).toNat,by omega⟩
      have hy2 : y ≤ 2047:=by omega
      obtain ⟨Y,hY⟩ : ∃ Y,y * 4503599627370496 = Y:=⟨_,rfl⟩
      have hYi : (y : Int) * 4503599627370496 = (Y : Int):=by omega
      have hYl : Y < 18446744073709551616:=by omega
      obtain ⟨X4,hX4,_⟩:=or_nat X3 Y
      refine ⟨X4,_,.inl rfl,fun w=>?_⟩
      have f1 : ∀ W,(callFunc 240 #[.int .u64 (X4 : Int)]).run Tryz.prog W = .ok (.value (.float .f64 X4)) W:=fun W=>run_sfrom X4 W
      have de : decide (972 ≤ e) = false:=decide_eq_false he
      clear hz hY
      go_enter Tryz.func248,Tryz.ntmps248
      go_wp2_with (fail)
      go_returns
      exact ⟨rfl,rfl⟩
theorem bitLen_max : ∀ n x,n ≤ 64 → x < 2 ^ n → Lib.bitLen x ≤ n:=by
  intro n
  induction n with
  | zero =>
    intro x _ h
    have e : x = 0:=by simpa using h
    subst e
    decide
  | succ n ih =>
    intro x hn h
    by_cases h0 : x = 0
    · subst h0
      exact Nat.le_trans (show Lib.bitLen 0 ≤ 0 by decide) (Nat.zero_le _)
    · rw [Lib.bitLen_half x h0 (Nat.lt_of_lt_of_le h (Nat.pow_le_pow_right (by decide) hn))]
      have h2 : x / 2 < 2 ^ n:=by
        rw [Nat.pow_succ] at h
        omega
      have:=ih (x / 2) (by omega) h2
      omega
theorem bitLen_min {x : Nat} (h0 : x ≠ 0) (h : x < 18446744073709551616) : 1 ≤ Lib.bitLen x:=by
  rw [Lib.bitLen_half x h0 h]
  omega
theorem parse64_any (d : Nat) (p : Int) (sg : Nat) (hd0 : d ≠ 0) (hd : d < 18446744073709551616) (hs : sg < 18446744073709551616) (hp0 : -345 ≤ p) (hp1 : p ≤ 310) : ∃ (f : Nat) (er : Value),ErrR er∧∀ w,PTab w → 11 < w.heap.size →
    Calls Tryz.prog 242 #[.int .u64 (d : Int),.int .i64 p,.int .u64 (sg : Int)] w fun r w'=>r = .returned (.tuple #[.float .f64 f,er])∧Below w.heap.size w w':=by
  have hb1:=bitLen_min hd0 hd
  have hb2:=bitLen_max 64 d (by decide) hd
  have LB:=fun W=>Tryz.bits_Len64 (d : Int) W (by omega) (by omega)
  rw [show ((d : Int)).toNat = d from by omega] at LB
  obtain ⟨b,hb⟩ : ∃ b,Lib.bitLen d = b:=⟨_,rfl⟩
  rw [hb] at hb1 hb2 LB
  have L2:=fun W=>l2_any p W (by omega) (by omega)
  have hlr : -1147 ≤ l2I p∧l2I p ≤ 1030:=by unfold l2I; omega
  obtain ⟨E,hE⟩ : ∃ E,min (1074 : Int) (53 - (b : Int) - l2I p) = E:=⟨_,rfl⟩
  have hE1 : E ≤ 1074:=by omega
  have hE2 : E ≤ 53 - (b : Int) - l2I p:=by omega
  have hE3 : -1041 ≤ E:=by omega
  obtain ⟨F,hF⟩ : ∃ F,E - (64 - (b : Int)) = F:=⟨_,rfl⟩
  obtain ⟨sc,hsc⟩ : ∃ sc,mkSc F p = sc:=⟨_,rfl⟩
  have hscs : sc.s = (-(F + l2I p + 3)).toNat:=by rw [← hsc]; rfl
  have hsl : sc.s ≤ 2100:=by omega
  have hfr : F + l2I p + 3 ≤ -8:=by omega
  have BA : Hid (∀ w w2,World.grownBy (w.alloc (.cells #[.int .u64 0,.int .u64 0,.int .i64 0] 259)) w2 (some w.heap.size) → Below w.heap.size w w2):=Lib.hid fun w w2 hg=>((Below.refl _ w).alloc (Nat.le_refl _) _).grown hg (by simp) (fun k e=>by injection e with e; omega)
  have PR:=Lib.hid fun (w : World) (htab : PTab w) (hpt : 11 < w.heap.size)=>prescale_any w.heap.size F p (.int .u64 0) (.int .u64 0) (.int .i64 0) (w.alloc (.cells #[.int .u64 0,.int .u64 0,.int .i64 0] 259)) (htab.alloc hpt _) (heap_alloc_new w _) (by omega) (by omega) (by omega) (by omega) (by omega) (by omega)
  rw [hsc] at PR
  obtain ⟨lp,hlp⟩ : ∃ l,l2I p = l:=⟨_,rfl⟩
  rw [hlp] at L2 hlr hE hE2 PR hscs hfr
  obtain ⟨hl1,hl2⟩:=hlr
  have HLB:=Lib.hid LB
  have HL2:=Lib.hid L2
  have e64 : (64 : Int) - (b : Int) = ((64 - b : Nat) : Int):=by omega
  by_cases h64 : 64 ≤ sc.s
  · obtain ⟨X,hX,_⟩:=or_nat sg 0
    refine ⟨X,.nilIface,.inl rfl,fun w htab hpt=>?_⟩
    have f1 : ∀ W,(callFunc 240 #[.int .u64 (X : Int)]).run Tryz.prog W = .ok (.value (.float .f64 X)) W:=fun W=>run_sfrom X W
    have P1:=Lib.hid (PR.out w htab hpt)
    have d64 : decide (64 ≤ sc.s) = true:=decide_eq_true h64
    clear LB L2 hlp hb hE2 hsc hscs hfr e64
    go_enter Tryz.func242,Tryz.ntmps242
    go_wp2_with fail
    refine (HLB.out _).mono ?_
    rintro e' w' ⟨rfl,rfl⟩
    go_wp2_with fail
    refine (HL2.out _).mono ?_
    rintro e' w' ⟨rfl,rfl⟩
    go_wp2_with fail
    refine P1.out.mono ?_
    rintro e' w2 ⟨rfl,hat,hgr⟩
    have HB:=Lib.hid (BA.out _ w2 hgr)
    have c2 : w2.cell? ⟨w'.heap.size,2,none⟩ = some (.int .i64 (sc.s : Int)):=by rw [cell_of_row w2 _ 2 _ _ (0,0) hat]; rfl
    clear hat hgr
    go_wp2_with fail
    go_returns
    exact ⟨rfl,HB.out⟩
  · have hok : sc.ok:=by rw [← hsc]; exact mkSc_ok (by omega) (by omega) (by omega) (by omega)
    obtain ⟨k,hk⟩ : ∃ k,64 - b = k:=⟨_,rfl⟩
    rw [hk] at e64
    rw [e64] at hF
    obtain ⟨K,hK⟩ : ∃ K,2 ^ k = K:=⟨_,rfl⟩
    have hpi : (2 : Int) ^ k = (K : Int):=by rw [← hK]; push_cast; rfl
    have hmin : min k 64 = k:=Nat.min_eq_left (by omega)
    obtain ⟨X,hX,hX2⟩:=wrap_nat ((d : Int) * (K : Int))
    have US:=Lib.hid fun (g : Nat) (w : World) (hg : ScAt w g sc)=>uscale_any X g sc w hX2 hok hg
    have hul:=uscaleN_lt X sc hX2 hok
    obtain ⟨u,hu⟩ : ∃ u,uscaleN X sc = u:=⟨_,rfl⟩
    rw [hu] at US hul
    have UM:=Lib.hid fun W=>unmin_any 9007199254740992 W (by decide) (by decide)
    obtain ⟨t,ht⟩ : ∃ t : Bool,decide (36028797018963966 ≤ u) = t:=⟨_,rfl⟩
    have B2:=Lib.hid (bool2_int t)
    obtain ⟨A,hA,hA2⟩:=and_nat u 1
    obtain ⟨v,hv⟩ : ∃ v,(if t then u / 2 else u) = v:=⟨_,rfl⟩
    have hvl : v < 18446744073709551616:=by rw [← hv]; split <;> omega
    obtain ⟨Y,hY,hY2⟩:=or_nat v A
    have RU:=Lib.hid fun W=>round_unr Y W hY2
    have hrl:=roundN_lt Y
    obtain ⟨r,hr⟩ : ∃ r,roundN Y = r:=⟨_,rfl⟩
    rw [hr] at RU hrl
    obtain ⟨M,hM,hM2⟩:=or_nat sg r
    obtain ⟨G,hG⟩ : ∃ G : Int,-(E - (if t then 1 else 0)) = G:=⟨_,rfl⟩
    have hGb : -1074 ≤ G∧G ≤ 3000:=by rw [← hG]; split <;> omega
    obtain ⟨f,er,her,hpk⟩:=pack_any M G hM2 hGb.1 hGb.2
    refine ⟨f,er,her,fun w htab hpt=>?_⟩
    have PK:=Lib.hid hpk
    have P1:=Lib.hid (PR.out w htab hpt)
    have d64 : decide (64 ≤ sc.s) = false:=decide_eq_false h64
    have hsc64 : sc.s < 64:=by omega
    clear LB L2 hlp hb hE2 hsc hscs hfr hk hK hu hr hpk hok hd0
    have hvt : t = true → (u : Int) / 2 = (v : Int):=fun h=>by rw [h] at hv; simp at hv; omega
    have hvf : t = false → u = v:=fun h=>by rw [h] at hv; simpa using hv
    have HVT:=Lib.hid hvt
    have HVF:=Lib.hid hvf
    have HGG:=Lib.hid hG
    have HT:=Lib.hid ht
    obtain ⟨hg1,hg2⟩:=hGb
    clear hvt hvf hv hG ht
    go_enter Tryz.func242,Tryz.ntmps242
    go_wp2_with fail
    refine (HLB.out _).mono ?_
    rintro e' w' ⟨rfl,rfl⟩
    go_wp2_with fail
    refine (HL2.out _).mono ?_
    rintro e' w' ⟨rfl,rfl⟩
    go_wp2_with fail
    refine P1.out.mono ?_
    rintro e' w2 ⟨rfl,hat,hgr⟩
    have HB:=Lib.hid (BA.out _ w2 hgr)
    have c2 : w2.cell? ⟨w'.heap.size,2,none⟩ = some (.int .i64 (sc.s : Int)):=by rw [cell_of_row w2 _ 2 _ _ (0,0) hat]; rfl
    have SC:=Lib.hid hat
    clear hat hgr
    go_wp2_with fail
    refine (US.out _ _ SC.out).mono ?_
    rintro e' w3 ⟨rfl,k1,rfl⟩
    go_wp2_with fail
    refine (UM.out _).mono ?_
    rintro e' w3 ⟨rfl,rfl⟩
    have ht2:=HT.out
    cases t
    · have hlt : ¬ 36028797018963966 ≤ u:=by simpa using ht2
      have dl : decide ((36028797018963966 : Int) ≤ (u : Int)) = false:=decide_eq_false (by omega)
      have hG0 : -(E - 0) = G:=by have:=HGG.out; simpa using this
      have hGe : -E = G:=by omega
      have huv:=HVF.out rfl
      subst huv
      clear ht2
      go_wp2_with fail
      refine (B2.out _).mono ?_
      rintro e' w3 ⟨rfl,rfl⟩
      go_wp2_with fail
      refine (RU.out _).mono ?_
      rintro e' w3 ⟨rfl,rfl⟩
      go_wp2_with fail
      refine (PK.out _).mono ?_
      rintro e' w3 ⟨rfl,rfl⟩
      go_wp2_with fail
      go_returns
      exact ⟨rfl,below_drewN HB.out _⟩
    · have hlt : 36028797018963966 ≤ u:=by simpa using ht2
      have dl : decide ((36028797018963966 : Int) ≤ (u : Int)) = true:=decide_eq_true (by omega)
      have hG0 : -(E - 1) = G:=by have:=HGG.out; simpa using this
      have huv:=HVT.out rfl
      clear ht2
      go_wp2_with fail
      refine (B2.out _).mono ?_
      rintro e' w3 ⟨rfl,rfl⟩
      go_wp2_with fail
      refine (RU.out _).mono ?_
      rintro e' w3 ⟨rfl,rfl⟩
      go_wp2_with fail
      refine (PK.out _).mono ?_
      rintro e' w3 ⟨rfl,rfl⟩
      go_wp2_with fail
      go_returns
      exact ⟨rfl,below_drewN HB.out _⟩
end LM
namespace LM
theorem prefix_no (s : ByteArray) (w : World) (h1 : 0 < s.size) (h2 : s.size ≤ 1000) (h : dgc (byF s 0) ∨ byF s 0 = 46) :
    Calls Tryz.prog 243 #[.string s,.string ⟨#[105,110,102,105,110,105,116,121]⟩] w fun e w'=>e = .returned (.int .i64 0)∧w = w':=by
  have b0:=byF_at s 0 h1
  obtain ⟨c,hc⟩ : ∃ c,byF s 0 = c:=⟨_,rfl⟩
  rw [hc] at b0 h
  obtain ⟨p,hp⟩ : ∃ p : ByteArray,(⟨#[105,110,102,105,110,105,116,121]⟩ : ByteArray) = p:=⟨_,rfl⟩
  have hpz : p.size = 8:=by rw [← hp]; rfl
  have p0 : (p[0]'(by omega)).toNat = 105:=byte_at (l:=[105,110,102,105,110,105,116,121]) (by rw [← hp]) 0 (by omega) 105 rfl
  rw [hp]
  have hcl : c ≤ 57:=by unfold dgc at h; omega
  have d1 : decide (65 ≤ (c : Int)) = false:=decide_eq_false (by omega)
  have d2 : ((c : Int) != 105) = true:=by simpa using (by omega : ¬ (c : Int) = 105)
  have d3 : 0 < min 8 s.size:=by omega
  obtain ⟨q,hq⟩ : ∃ q : Nat,min (8 : Int) (s.size : Int) = (q : Int):=⟨min 8 s.size,by omega⟩
  have hq1 : 0 < q:=by omega
  have hq2 : q ≤ 8:=by omega
  have hq3 : q ≤ s.size:=by omega
  clear hp hc h
  go_enter Tryz.func243,Tryz.ntmps243
  go_wp2_with (fail)
  go_loop [6] (fun i=>i = .int .i64 0) (fun _=>0)
  case atStart=>rfl
  case round =>
    obtain rfl:=hrel
    go_wp2
    go_ret
    exact ⟨rfl,rfl⟩
theorem special_no (s : ByteArray) (a m b : Nat) (w : World) (hz : s.size ≤ 800) (hN : NumQ (byF s) s.size a m b) (hs : 0 < s.size) :
    Calls Tryz.prog 231 #[.string s] w fun e w'=>e = .returned (.tuple #[.float .f64 0,.int .i64 0,.bool false])∧w = w':=by
  have b0:=byF_at s 0 hs
  have hne : ¬ s = ByteArray.empty:=fun e=>by rw [e] at hs; exact absurd hs (by decide)
  have hzn : ((s.size : Int) == 0) = false:=by simpa using (by omega : ¬ (s.size : Int) = 0)
  by_cases ha : a = 1
  · have h1:=hN.am
    have h2:=hN.mz
    have hsz : 1 < s.size:=by omega
    have e1 : byF (s.extract 1 s.size) 0 = byF s 1:=by
      unfold byF
      rw [Lib.extract_data]
      have h3 : 0 < s.size - 1:=by omega
      have h4 : 1 < s.data.size:=by have : s.size = s.data.size:=rfl; omega
      simp [h3]
      rw [Array.getElem?_eq_getElem h4]
      rfl
    have hman:=hN.man 1 (by omega) (by omega)
    have P1:=Lib.hid fun W=>prefix_no (s.extract 1 s.size) W (by rw [Lib.size_eq,Lib.extract_data]; simp; omega) (by rw [Lib.size_eq,Lib.extract_data]; simp; omega) (by rw [e1]; exact hman)
    have hsg:=hN.sig ha
    obtain ⟨c,hc⟩ : ∃ c,byF s 0 = c:=⟨_,rfl⟩
    rw [hc] at b0 hsg
    clear hN hc e1 hman
    rcases hsg with rfl | rfl
    all_goals
      go_enter Tryz.func231,Tryz.ntmps231
      go_wp2_with (fail)
      refine (P1.out _).mono ?_
      rintro e w' ⟨rfl,rfl⟩
      go_wp2
      go_returns
      exact ⟨rfl,rfl⟩
  · have hd:=hN.sig0 (by have:=hN.a1; omega)
    obtain ⟨c,hc⟩ : ∃ c,byF s 0 = c:=⟨_,rfl⟩
    rw [hc] at b0 hd
    have hcl : (48 ≤ c∧c ≤ 57) ∨ c = 46:=hd
    have d1 : ((c : Int) == 43) = false:=by simpa using (by omega : ¬ (c : Int) = 43)
    have d2 : ((c : Int) == 45) = false:=by simpa using (by omega : ¬ (c : Int) = 45)
    have d3 : ((c : Int) == 105) = false:=by simpa using (by omega : ¬ (c : Int) = 105)
    have d4 : ((c : Int) == 73) = false:=by simpa using (by omega : ¬ (c : Int) = 73)
    have d5 : ((c : Int) == 110) = false:=by simpa using (by omega : ¬ (c : Int) = 110)
    have d6 : ((c : Int) == 78) = false:=by simpa using (by omega : ¬ (c : Int) = 78)
    clear hN hc hd hcl
    go_enter Tryz.func231,Tryz.ntmps231
    go_wp2_with (fail)
    go_returns
    exact ⟨rfl,rfl⟩
end LM
end Go.Proofs.YtihbgghlnppkiaaGreatDoor
namespace Go.Proofs.YtihbgghlnppkiaaGreatDoor
open Go Go.Shelf Go.RowKit Go.Sort Go.Lib
open Ieee
namespace LM
def NN (x : Nat) : Prop:=(∃ s m e,double.read x = .number s m e) ∨ (∃ s,double.read x = .infinity s)
theorem nn_word (s : Bool) (r : Nat) (h : r ≤ 9218868437227405312) : NN (double.word s r):=by
  have hw : double.word s r % 9223372036854775808 = r:=by
    rw [word_f]
    split <;> omega
  unfold NN Format.read
  rw [d_sw,hw,d_bin,d_inf]
  by_cases h1 : r < 4503599627370496
  · simp [h1]
  · by_cases h2 : r < 9218868437227405312
    · simp [h1,h2]
    · have h3 : r = 9218868437227405312:=by omega
      simp [h3]
theorem nn_nearest (s : Bool) (m : Nat) (e : Int) : NN (double.nearest s m e):=by
  unfold Format.nearest
  split
  · exact nn_word s 0 (by decide)
  · refine nn_word s _ ?_
    rw [d_inf]
    exact Nat.min_le_right _ _
theorem nn_inf (s : Bool) : NN (double.word s double.infRung):=nn_word s _ (by rw [d_inf]; exact Nat.le_refl _)
def NZ (y : Nat) : Prop:=∃ t n j,double.read y = .number t n j∧n ≠ 0
theorem nn_mul {x y : Nat} (hx : NN x) (hy : NZ y) : ∃ r,double.mul x y = some r∧NN r:=by
  obtain ⟨t,n,j,h,hn⟩:=hy
  unfold Format.mul
  rw [h]
  rcases hx with ⟨s,m,e,hx⟩ | ⟨s,hx⟩
  · rw [hx]
    exact ⟨_,rfl,nn_nearest _ _ _⟩
  · rw [hx]
    unfold Datum.product
    simp only [if_neg hn]
    exact ⟨_,rfl,nn_inf _⟩
theorem nn_div {x y : Nat} (hx : NN x) (hy : NZ y) : ∃ r,double.div x y = some r∧NN r:=by
  obtain ⟨t,n,j,h,hn⟩:=hy
  unfold Format.div
  rw [h]
  rcases hx with ⟨s,m,e,hx⟩ | ⟨s,hx⟩
  · rw [hx]
    unfold Datum.quotient
    simp only [if_neg hn]
    exact ⟨_,rfl,nn_nearest _ _ _⟩
  · rw [hx]
    exact ⟨_,rfl,nn_inf _⟩
def nzB (y : Nat) : Bool:=match double.read y with
  | .number _ n _=>n != 0
  | _=>false
theorem rows_nz : (f64Rows.all nzB) = true:=by decide
theorem row_nz {i x : Nat} (h : f64Rows[i]? = some x) : NZ x:=by
  have h1:=List.all_eq_true.1 rows_nz x (List.mem_of_getElem? h)
  unfold nzB at h1
  cases hd : double.read x with
  | number t n j=>rw [hd] at h1; exact ⟨t,n,j,hd,by simpa using h1⟩
  | infinity s=>rw [hd] at h1; cases h1
  | nan s f=>rw [hd] at h1; cases h1
theorem row_at {i : Nat} (h : i < 23) : ∃ x,f64Rows[i]? = some x:=⟨_,List.getElem?_eq_getElem (by show i < 23; exact h)⟩
theorem ofInt_nn (z : Nat) (hz : z < 9007199254740992) : ∃ F0,floatOfInt .f64 (z : Int) = F0∧NN F0∧NN (Op.negFloat .f64 F0):=by
  have e : floatOfInt .f64 (z : Int) = double.nearest false z 0:=by
    unfold floatOfInt FloatKind.nearest FloatKind.encode
    rw [show decide ((z : Int) < 0) = false from decide_eq_false (by omega),Int.natAbs_natCast]
    rfl
  obtain ⟨m',e',hc,hw,-⟩:=nearest_small false z 0 hz (by decide) (by decide)
  refine ⟨_,rfl,?_,?_⟩
  · rw [e]; exact nn_nearest _ _ _
  · rw [e,hw,neg_word hc]
    exact .inl ⟨_,_,_,read_word hc⟩
theorem fmul_run {x y r : Nat} (h : double.mul x y = some r) (P : Program) (t : TypeId) (W : World) : (binOp .mul t (.float .f64 x) (.float .f64 y)).run P W = .ok (.float .f64 r) W:=run_float_arith W .mul t .f64 _ _ _ h
theorem fdiv_run {x y r : Nat} (h : double.div x y = some r) (P : Program) (t : TypeId) (W : World) : (binOp .quo t (.float .f64 x) (.float .f64 y)).run P W = .ok (.float .f64 r) W:=run_float_arith W .quo t .f64 _ _ _ h
theorem exact_any (m : Nat) (ex : Int) (neg : Bool) (hm : m < 18446744073709551616) (h0 : -100000 ≤ ex) (h1 : ex ≤ 100000) : ∃ (f : Nat) (ok : Bool),∀ w,FV w →
    Calls Tryz.prog 241 #[.int .u64 (m : Int),.int .i64 ex,.bool neg] w fun e w'=>e = .returned (.tuple #[.float .f64 f,.bool ok])∧w = w':=by
  by_cases hs : m < 4503599627370496
  · have hq : (m : Int) / 4503599627370496 = 0:=by omega
    obtain ⟨F0,hF0,hn0,hn1⟩:=ofInt_nn m (by omega)
    obtain ⟨F,hF⟩ : ∃ F,(if neg then Op.negFloat .f64 F0 else F0) = F:=⟨_,rfl⟩
    have hNF : NN F:=by
      rw [← hF]
      split
      · exact hn1
      · exact hn0
    have hng : ∀ W,(Op.unary .neg (.float .f64 F0)).run Tryz.prog W = .ok (.float .f64 (Op.negFloat .f64 F0)) W:=fun W=>rfl
    have HF:=Lib.hid hF
    clear hF hn0 hn1
    by_cases hz : ex = 0
    · subst hz
      refine ⟨F,true,fun w hv=>?_⟩
      have i0:=hv.info
      clear hv
      cases neg
      all_goals
        have hFF:=HF.out
        simp at hFF
        subst hFF
        go_enter Tryz.func241,Tryz.ntmps241
        go_wp2_with (fail)
        go_returns
        exact ⟨rfl,rfl⟩
    · have dz : (ex == 0) = false:=by simpa using hz
      by_cases hp : 0 < ex
      · have dp : decide (0 < ex) = true:=decide_eq_true hp
        by_cases h37 : ex ≤ 37
        · have dp2 : decide (ex ≤ 37) = true:=decide_eq_true h37
          obtain ⟨k,rfl⟩ : ∃ k : Nat,ex = (k : Int):=⟨ex.toNat,by omega⟩
          have hk1 : 0 < k:=by omega
          have hk37 : k ≤ 37:=by omega
          clear hz h0 h1 hp h37
          by_cases h22 : 22 < k
          · obtain ⟨i,hi⟩ : ∃ i,k - 22 = i:=⟨_,rfl⟩
            have hki : (k : Int) - 22 = (i : Int):=by omega
            have d22 : decide (22 < (k : Int)) = true:=decide_eq_true (by omega)
            have hi23 : i < 23:=by omega
            obtain ⟨x1,hx1⟩:=row_at hi23
            obtain ⟨x2,hx2⟩:=row_at (i:=22) (by decide)
            obtain ⟨F1,hF1,hN1⟩:=nn_mul hNF (row_nz hx1)
            obtain ⟨F2,hF2,hN2⟩:=nn_mul hN1 (row_nz hx2)
            have hm1:=fun W=>fmul_run hF1 Tryz.prog 58 W
            have hm2:=fun W=>fmul_run hF2 Tryz.prog 58 W
            obtain ⟨B1,hB1⟩ : ∃ B,(FloatKind.f64.format.order F1 4831355200913801216 == some .gt) = B:=⟨_,rfl⟩
            obtain ⟨B2,hB2⟩ : ∃ B,(FloatKind.f64.format.order F1 14054727237768577024 == some .lt) = B:=⟨_,rfl⟩
            have HX1:=Lib.hid hx1
            have HX2:=Lib.hid hx2
            clear hi hNF hN1 hN2 hF1 hF2 hx1 hx2 dz
            have hCB : (B1 = true) ∨ (B1 = false∧B2 = true) ∨ (B1 = false∧B2 = false):=by cases B1 <;> cases B2 <;> simp
            rcases hCB with rfl | ⟨rfl,rfl⟩ | ⟨rfl,rfl⟩
            · refine ⟨F1,false,fun w hv=>?_⟩
              have i0:=hv.info
              obtain ⟨b,n,c,t1,-,t3⟩:=hv.f64
              have t4:=t3 i _ HX1.out
              clear hv t3
              cases neg
              all_goals
                have hFF:=HF.out
                simp at hFF
                subst hFF
                go_enter Tryz.func241,Tryz.ntmps241
                go_wp2_with (fail)
                go_returns
                exact ⟨rfl,rfl⟩
            · refine ⟨F1,false,fun w hv=>?_⟩
              have i0:=hv.info
              obtain ⟨b,n,c,t1,-,t3⟩:=hv.f64
              have t4:=t3 i _ HX1.out
              clear hv t3
              cases neg
              all_goals
                have hFF:=HF.out
                simp at hFF
                subst hFF
                go_enter Tryz.func241,Tryz.ntmps241
                go_wp2_with (fail)
                go_returns
                exact ⟨rfl,rfl⟩
            · refine ⟨F2,true,fun w hv=>?_⟩
              have i0:=hv.info
              obtain ⟨b,n,c,t1,-,t3⟩:=hv.f64
              have t4:=t3 i _ HX1.out
              have t5:=t3 22 _ HX2.out
              clear hv t3
              cases neg
              all_goals
                have hFF:=HF.out
                simp at hFF
                subst hFF
                go_enter Tryz.func241,Tryz.ntmps241
                go_wp2_with (fail)
                go_returns
                exact ⟨rfl,rfl⟩
          · have hk23 : k < 23:=by omega
            have d22 : decide (22 < (k : Int)) = false:=decide_eq_false (by omega)
            obtain ⟨x2,hx2⟩:=row_at hk23
            obtain ⟨F2,hF2,hN2⟩:=nn_mul hNF (row_nz hx2)
            have hm2:=fun W=>fmul_run hF2 Tryz.prog 58 W
            obtain ⟨B1,hB1⟩ : ∃ B,(FloatKind.f64.format.order F 4831355200913801216 == some .gt) = B:=⟨_,rfl⟩
            obtain ⟨B2,hB2⟩ : ∃ B,(FloatKind.f64.format.order F 14054727237768577024 == some .lt) = B:=⟨_,rfl⟩
            have HX2:=Lib.hid hx2
            clear hNF hN2 hF2 hx2 dz
            have hCB : (B1 = true) ∨ (B1 = false∧B2 = true) ∨ (B1 = false∧B2 = false):=by cases B1 <;> cases B2 <;> simp
            rcases hCB with rfl | ⟨rfl,rfl⟩ | ⟨rfl,rfl⟩
            · refine ⟨F,false,fun w hv=>?_⟩
              have i0:=hv.info
              clear hv
              cases neg
              all_goals
                have hFF:=HF.out
                simp at hFF
                subst hFF
                go_enter Tryz.func241,Tryz.ntmps241
                go_wp2_with (fail)
                go_returns
                exact ⟨rfl,rfl⟩
            · refine ⟨F,false,fun w hv=>?_⟩
              have i0:=hv.info
              clear hv
              cases neg
              all_goals
                have hFF:=HF.out
                simp at hFF
                subst hFF
                go_enter Tryz.func241,Tryz.ntmps241
                go_wp2_with (fail)
                go_returns
                exact ⟨rfl,rfl⟩
            · refine ⟨F2,true,fun w hv=>?_⟩
              have i0:=hv.info
              obtain ⟨b,n,c,t1,-,t3⟩:=hv.f64
              have t5:=t3 k _ HX2.out
              clear hv t3
              cases neg
              all_goals
                have hFF:=HF.out
                simp at hFF
                subst hFF
                go_enter Tryz.func241,Tryz.ntmps241
                go_wp2_with (fail)
                go_returns
                exact ⟨rfl,rfl⟩
        · have dp2 : decide (ex ≤ 37) = false:=decide_eq_false h37
          have dn : decide (ex < 0) = false:=decide_eq_false (by omega)
          refine ⟨F,false,fun w hv=>?_⟩
          have i0:=hv.info
          clear hv
          cases neg
          all_goals
            have hFF:=HF.out
            simp at hFF
            subst hFF
            go_enter Tryz.func241,Tryz.ntmps241
            go_wp2_with (fail)
            go_returns
            exact ⟨rfl,rfl⟩
      · have dp : decide (0 < ex) = false:=decide_eq_false hp
        have dn : decide (ex < 0) = true:=decide_eq_true (by omega)
        by_cases h22 : -22 ≤ ex
        · have dn2 : decide (-22 ≤ ex) = true:=decide_eq_true h22
          obtain ⟨k,hk⟩ : ∃ k : Nat,ex = -(k : Int):=⟨(-ex).toNat,by omega⟩
          have hk23 : k < 23:=by omega
          have hke : -ex = (k : Int):=by omega
          obtain ⟨x2,hx2⟩:=row_at hk23
          obtain ⟨F2,hF2,hN2⟩:=nn_div hNF (row_nz hx2)
          have hm2:=fun W=>fdiv_run hF2 Tryz.prog 58 W
          have HX2:=Lib.hid hx2
          clear hNF hN2 hF2 hx2 hk
          refine ⟨F2,true,fun w hv=>?_⟩
          have i0:=hv.info
          obtain ⟨b,n,c,t1,-,t3⟩:=hv.f64
          have t5:=t3 k _ HX2.out
          clear hv t3
          cases neg
          all_goals
            have hFF:=HF.out
            simp at hFF
            subst hFF
            go_enter Tryz.func241,Tryz.ntmps241
            go_wp2_with (fail)
            go_returns
            exact ⟨rfl,rfl⟩
        · have dn2 : decide (-22 ≤ ex) = false:=decide_eq_false h22
          refine ⟨F,false,fun w hv=>?_⟩
          have i0:=hv.info
          clear hv
          cases neg
          all_goals
            have hFF:=HF.out
            simp at hFF
            subst hFF
            go_enter Tryz.func241,Tryz.ntmps241
            go_wp2_with (fail)
            go_returns
            exact ⟨rfl,rfl⟩
  · obtain ⟨q,hq⟩ : ∃ q,m / 4503599627370496 = q:=⟨_,rfl⟩
    have hqi : (m : Int) / 4503599627370496 = (q : Int):=by omega
    have dq : ((q : Int) != 0) = true:=by simpa using (by omega : ¬ (q : Int) = 0)
    refine ⟨0,false,fun w hv=>?_⟩
    have i0:=hv.info
    clear hv hq
    go_enter Tryz.func241,Tryz.ntmps241
    go_wp2_with (fail)
    go_returns
    exact ⟨rfl,rfl⟩
end LM
end Go.Proofs.YtihbgghlnppkiaaGreatDoor
