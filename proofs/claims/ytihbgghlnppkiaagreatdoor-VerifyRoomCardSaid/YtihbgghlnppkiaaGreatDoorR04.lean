import Derived.Deep.OwnRows
import Derived.Laws.CopyOwn
import Derived.Test.YtihbgghlnppkiaaGreatDoorR03
import Derived.Test.YtihbgghlnppkiaaGreatDoorR01
import Derived.Deep.RegionWith
import Derived.Maps.AppendAt
set_option linter.unusedVariables false
set_option linter.unusedSimpArgs false
set_option maxRecDepth 100000
set_option maxHeartbeats 16000000
namespace Go.Proofs.YtihbgghlnppkiaaGreatDoor
open Go.RowKit
namespace LM
theorem bounded_big (A : Option Addr) (c : Nat) (xs : List Nat) (w : World) (hr : Rd w A xs) (hnc : xs.length ≤ c) (hc : c ≤ maxLen) (hb : 64 < (trim xs).length) :
    Calls Tryz.prog 163 #[.slice A xs.length c] w fun e w'=>e = .returned (.tuple #[.slice none 0 0,.int .i64 11])∧w = w':=by
  have hl:=trim_length_le xs
  have hd : decide (64 < (trim xs).length) = true:=decide_eq_true hb
  go_enter Tryz.func163,Tryz.ntmps163
  go_wp2_with fail
  refine (trimmed_any _ _ _ _ hr hnc hc).mono ?_; rintro e w' ⟨rfl,rfl⟩
  go_wp2_with fail
  refine (isBig_any _ _ _ _ (by omega)).mono ?_; rintro e w' ⟨rfl,rfl⟩
  go_wp2
  go_ret2
  exact ⟨rfl,rfl⟩
theorem bounded_ok (A : Option Addr) (c : Nat) (xs : List Nat) (w : World) (hr : Rd w A xs) (hnc : xs.length ≤ c) (hc : c ≤ maxLen) (hb : (trim xs).length ≤ 64) :
    Calls Tryz.prog 163 #[.slice A xs.length c] w fun e w'=>e = .returned (.tuple #[.slice A (trim xs).length c,.int .i64 0])∧w = w':=by
  have hl:=trim_length_le xs
  have hd : decide (64 < (trim xs).length) = false:=decide_eq_false (by omega)
  go_enter Tryz.func163,Tryz.ntmps163
  go_wp2_with fail
  refine (trimmed_any _ _ _ _ hr hnc hc).mono ?_; rintro e w' ⟨rfl,rfl⟩
  go_wp2_with fail
  refine (isBig_any _ _ _ _ (by omega)).mono ?_; rintro e w' ⟨rfl,rfl⟩
  go_wp2
  go_ret2
  exact ⟨rfl,rfl⟩
theorem u32_info : (Tryz.prog.info? 92).map (fun i=>(i.zero,i.size,i.bytes)) = some (some (.int .u32 0),1,4):=by kernel_rfl
theorem u32_size : (Tryz.prog.info? 92).map (·.size) = some 1:=by kernel_rfl
theorem addr_add (b off j : Nat) : Addr.add ⟨b,off,none⟩ j = ⟨b,off + j,none⟩:=by
  unfold Addr.add; split <;> simp_all
theorem made_zero (n : Nat) : (madeCells #[Value.int .u32 0] n) = (U (List.replicate n 0)).toArray:=by
  apply Array.ext <;> simp [madeCells,U,Nat.mod_one]
theorem widened_any (A : Option Addr) (c n : Nat) (xs : List Nat) (w : World) (hr : Rd w A xs) (hn : xs.length ≤ n) (hm : n ≤ 4096) :
    Calls Tryz.prog 188 #[.slice A xs.length c,.int .i64 (n : Int)] w fun e w'=>e = .returned (.slice (some ⟨w.heap.size,0,none⟩) n n)∧Blk w' w.heap.size (U (xs ++ List.replicate (n - xs.length) 0))∧Below w.heap.size w w':=by
  have hmk:=fun W=>run_make_row' (P:=Tryz.prog) 59 92 (.int .u32 0) 4 Tryz.underlying59 u32_info rfl .i64 .i64 n (by omega) (by omega) W
  simp only [made_zero] at hmk
  go_enter Tryz.func188,Tryz.ntmps188
  go_wp2_with (with_reducible refine wpList_copy_splice rfl (.tmp 8) (.tmp 9) 59 59 rfl 92 Tryz.underlying59 u32_size (some ⟨w.heap.size,0,none⟩) A n n xs.length c rfl rfl w.heap.size 0 (U (List.replicate n 0)) 92 ?c1 (U xs) ?c2 ?c3 ?c4 ?c5 w.heap.size w ?c6 (Nat.le_refl _) ?_)
  case c1=>exact Blk.new w _
  case c2=>rw [U_len]; exact (Nat.min_eq_left hn).symm
  case c3 =>
    intro hl
    rw [U_len] at hl
    obtain ⟨b,off,rfl,hb,hc⟩:=hr hl
    refine ⟨⟨b,off,none⟩,rfl,fun j v hv=>?_⟩
    have hj : j < xs.length:=by
      rcases Nat.lt_or_ge j xs.length with h | h
      · exact h
      · rw [List.getElem?_eq_none (by rw [U_len]; exact h)] at hv; cases hv
    rw [U_get _ _ hj] at hv
    rw [← hv,← hc j hj]
    rw [addr_add]
    exact World.cell?_of_block (a:=⟨b,off + j,none⟩) (Below.heap_alloc w _ b hb)
  case c4=>simp [U_len]; omega
  case c5 =>
    intro v hv
    simp only [U,List.mem_map] at hv
    obtain ⟨x,_,rfl⟩:=hv
    rfl
  case c6=>exact (Below.refl _ _).alloc (Nat.le_refl _) _
  intro w1 hg1 hb1
  have H:=Lib.hid hb1
  clear hb1
  go_wp2
  go_ret
  refine ⟨rfl,?_,H.out⟩
  have h:=hg1.out
  unfold Blk
  rw [h]
  congr 3
  simp only [splice,List.take_zero,List.nil_append,U_len,U_append,Nat.zero_add]
  congr 1
  simp [U]
end LM
namespace LM
end LM
namespace LM
theorem carry2_lt {c p : Nat} (hc : c < 4294967296) (hp : p ≤ 18446744065119617025) : (c + p) / 4294967296 < 4294967296:=by omega
end LM
namespace LM
end LM
namespace LM
def TpRel (w : World) (g : Nat) (xs : List Nat) (rest : List Value) (n m : Nat) (c i : Value) (wr : World) : Prop :=
  ∃ (k : Nat) (zs : List Nat) (cy : Nat),k ≤ xs.length∧i = .int .i64 (k : Int)∧c = .int .u64 (cy : Int)∧cy < 4294967296∧zs.length = k∧Lm zs ∧
    val zs + 4294967296 ^ k * cy = val (xs.take k) * n + m∧Blk wr g (U (zs ++ xs.drop k) ++ rest)∧w.grownBy wr (some g)
theorem blk_cell0 {w : World} {g : Nat} {rest : List Value} {zs xs : List Nat} {k : Nat} (h : Blk w g (U (zs ++ xs.drop k) ++ rest)) (hz : zs.length = k) (hk : k < xs.length) :
    w.cell? ⟨g,k,none⟩ = some (.int .u32 ((xs[k]?.getD 0 : Nat) : Int)):=by
  rw [h.cell,List.getElem?_append_left (by rw [U_len]; simp; omega),U_get _ _ (by simp; omega)]
  congr 3
  rw [List.getElem?_append_right (by omega),List.getElem?_drop]
  congr 2; omega
theorem blk_set0 {w : World} {g : Nat} {rest : List Value} {zs xs : List Nat} {k : Nat} (h : Blk w g (U (zs ++ xs.drop k) ++ rest)) (hz : zs.length = k) (hk : k < xs.length) (y : Nat) {v : Value} (hv : v = .int .u32 (y : Int)) :
    Blk (w.setCell ⟨g,k,none⟩ v) g (U ((zs ++ [y]) ++ xs.drop (k + 1)) ++ rest):=by
  subst hv
  have h1:=h.set_ k (.int .u32 (y : Int))
  rw [drop_cons_get xs k hk,List.set_append_left _ _ (by rw [U_len]; simp; omega)] at h1
  subst hz
  have e:=set_mid [] zs (xs.drop (zs.length + 1)) [] (xs[zs.length]?.getD 0) y
  simp only [List.nil_append,List.append_nil,List.length_nil,Nat.zero_add] at e
  rw [e] at h1
  simpa using h1
theorem own_cases {w : World} {base : Nat} {v : Value} {xs : List Nat} (h : w.ownsRow base 92 1 v xs.length (U xs)) :
    (v = .slice none 0 0∧xs = []) ∨ ∃ g cap rest,v = .slice (some ⟨g,0,none⟩) xs.length cap∧base ≤ g∧Blk w g (U xs ++ rest)∧xs.length ≤ cap∧cap ≤ maxLen∧(U xs ++ rest).length = cap:=by
  obtain ⟨_,h | ⟨g,cap,cur,rfl,hb,hh,hn,hc,hs,ht⟩⟩:=h
  · exact .inl ⟨h.1,List.eq_nil_of_length_eq_zero h.2⟩
  · refine .inr ⟨g,cap,cur.toList.drop xs.length,rfl,hb,?_,hn,hc,?_⟩
    · unfold Blk
      rw [← ht,Nat.mul_one,List.take_append_drop]
      exact hh
    · rw [← ht,Nat.mul_one,List.take_append_drop]
      simpa using hs
theorem own_of_blk {w : World} {base g cap : Nat} {xs : List Nat} {rest : List Value} (h : Blk w g (U xs ++ rest)) (hb : base ≤ g) (hc : cap ≤ maxLen) (hl : (U xs ++ rest).length = cap) :
    w.ownsRow base 92 1 (.slice (some ⟨g,0,none⟩) xs.length cap) xs.length (U xs):=by
  refine ⟨by simp [U_len],.inr ⟨g,cap,(U xs ++ rest).toArray,rfl,hb,h,?_,hc,by simpa using hl,?_⟩⟩
  · rw [← hl]; simp [U_len]
  · simp [U_len]
theorem timesPlus_any (base : Nat) (v : Value) (xs : List Nat) (n m : Nat) (w : World) (ho : w.ownsRow base 92 1 v xs.length (U xs)) (hx : Lm xs) (hn : n < 4294967296) (hm : m < 4294967296) (hl : xs.length ≤ 4000) (hbase : base ≤ w.heap.size) :
    Calls Tryz.prog 162 #[v,.int .u32 (n : Int),.int .u32 (m : Int)] w fun e w' =>
      ∃ (v' : Value) (zs : List Nat),e = .returned v'∧w'.ownsRow base 92 1 v' zs.length (U zs)∧Lm zs∧val zs = val xs * n + m∧zs.length ≤ xs.length + 1∧Below base w w':=by
  obtain ⟨i0,hi0,hz0,hz1,hz2⟩:=info_parts u32_info
  rcases own_cases ho with ⟨rfl,rfl⟩ | ⟨g,cap,rest,rfl,hgb,hB0,hcap,hcm,hlen⟩
  · rcases Nat.eq_zero_or_pos m with rfl | hpos
    · go_enter Tryz.func162,Tryz.ntmps162
      go_wp2
      go_loopw [7,13] (fun c i wr=>c = .int .u64 0∧i = .int .i64 0∧w = wr) (fun _ _ _=>0)
      case atStart=>exact ⟨rfl,rfl,rfl⟩
      case round =>
        obtain ⟨rfl,rfl,rfl⟩:=hrel
        go_wp2
        go_ret
        exact ⟨_,[],rfl,ho,Lm.nil,by simp [val],by simp,Below.refl _ _⟩
    · go_enter Tryz.func162,Tryz.ntmps162
      go_wp2
      go_loopw [7,13] (fun c i wr=>c = .int .u64 (m : Int)∧i = .int .i64 0∧w = wr) (fun _ _ _=>0)
      case atStart=>exact ⟨rfl,rfl,rfl⟩
      case round =>
        obtain ⟨rfl,rfl,rfl⟩:=hrel
        go_wp2_with (at_builtin; refine wpList_append_own _ rfl _ _ 59 rfl base 92 i0 (.int .u32 0) 1 4 Tryz.underlying59 hi0 hz0 hz1 hz2 rfl (by decide) _ _ _ rfl (ho.alloc _) ⟨w.heap.size,0,none⟩ 1 1 [.int .u32 (m : Int)] rfl rfl (cell_one_new _ _ _) (by simp [Value.oneCell']) (by simp [maxLen]) (by simp) (by simp; omega) ?_; intro v1 w1 hown1 hg1 _)
        go_ret
        refine ⟨v1,[m],rfl,by simpa [U] using hown1,Lm.cons hm Lm.nil,by simp [val],by simp,?_⟩
        exact ((Below.refl base w).alloc hbase _).grown hg1 (by simp; omega) (fun k e=>by have e2 : (Value.slice none 0 0).ownBlock = some k:=e; cases e2)
  · have hL:=Lib.hid hlen
    clear hlen
    go_enter Tryz.func162,Tryz.ntmps162
    go_wp2
    go_loopw [7,13] (fun c i wr=>TpRel w g xs rest n m c i wr) (fun _ i _=>xs.length - (intOf i).toNat)
    case atStart=>exact ⟨0,[],m,Nat.zero_le _,rfl,rfl,hm,rfl,Lm.nil,by simp [val],by simpa using hB0,only_refl _ _⟩
    case round =>
      obtain ⟨k,zs,cy,hk,rfl,rfl,hcy,hzl,hzL,hv,hB,hG⟩:=hrel
      have HV:=Lib.hid hv
      have HZ:=Lib.hid hzl
      clear hv
      by_cases hlt : k < xs.length
      · have hc1:=blk_cell0 hB hzl (by omega : k < xs.length)
        have hf1:=hB.frozen k
        have hxk:=hx.get k
        have hp : (((xs[k]?.getD 0 : Nat) : Int) * (n : Int)) = ((xs[k]?.getD 0 * n : Nat) : Int):=by simp
        have hpl:=prod_le hxk hn
        have hst:=timesPlus_step (xs:=xs) (n:=n) (m:=m) hzl HV.out
        generalize hxe : xs[k]?.getD 0 = x at *
        generalize hpe : x * n = p at *
        have HST:=Lib.hid hst
        clear hst hxe hpe hzl
        go_wp2
        go_roundw
        case rel =>
          refine ⟨k + 1,zs ++ [(cy + p) % 4294967296],(cy + p) / 4294967296,by omega,by go_num,by congr 1,carry2_lt hcy hpl,by simp [HZ.out],hzL.snoc (Nat.mod_lt _ (by decide)),HST.out,?_,?_⟩
          · exact blk_set0 hB HZ.out (by omega) _ (by congr 1)
          · exact only_setCell hG (.inl rfl) _
        case measure=>simp [intOf]; omega
      · obtain rfl : k = xs.length:=by omega
        have hB1 : Blk wr g (U zs ++ rest):=by simpa using hB
        have hlz : (U zs ++ rest).length = cap:=by
          have h:=hL.out
          simp only [List.length_append,U_len,HZ.out] at h ⊢
          exact h
        have hown:=own_of_blk (base:=base) hB1 hgb hcm hlz
        have HLZ:=Lib.hid hlz
        have hVF : val zs + 4294967296 ^ xs.length * cy = val xs * n + m:=by
          have h:=HV.out
          rwa [List.take_length (l:=xs)] at h
        have HVF:=Lib.hid hVF
        have hbl : Below base w wr:=below_of_only (Below.refl base w) hG hgb hbase
        rw [HZ.out] at hown
        clear hlz hVF hzl hB hB1
        rcases Nat.eq_zero_or_pos cy with rfl | hpos
        · go_wp2
          go_ret
          refine ⟨_,zs,rfl,by rw [HZ.out]; exact hown,hzL,by have:=HVF.out; simpa using this,by rw [HZ.out]; omega,hbl⟩
        · have hbs : base ≤ wr.heap.size:=Nat.le_trans hbase hbl.size
          go_wp2_with (at_builtin; refine wpList_append_own _ rfl _ _ 59 rfl base 92 i0 (.int .u32 0) 1 4 Tryz.underlying59 hi0 hz0 hz1 hz2 rfl (by decide) _ _ _ rfl (hown.alloc _) ⟨wr.heap.size,0,none⟩ 1 1 [.int .u32 (cy : Int)] rfl rfl (cell_one_new _ _ _) (by simp [Value.oneCell']) (by unfold maxLen; omega) (by omega) (by simp; omega) ?_; intro v1 w1 hown1 hg1 _)
          go_ret
          refine ⟨v1,zs ++ [cy],rfl,?_,hzL.snoc hcy,by rw [val_snoc,HZ.out]; exact HVF.out,by simp [HZ.out],?_⟩
          · have e : (zs ++ [cy]).length = xs.length + 1:=by simp [HZ.out]
            rw [e,U_append]
            exact hown1
          · exact (hbl.alloc hbs _).grown hg1 (by simp; omega) (fun k e=>by have e2 : (Value.slice (some ⟨g,0,none⟩) xs.length cap).ownBlock = some k:=e; have e3 : some g = some k:=e2; injection e3 with e3; omega)
end LM
namespace LM
end LM
namespace LM
end LM
namespace LM
end LM
end Go.Proofs.YtihbgghlnppkiaaGreatDoor
