/- The library's slices.Backward over limbs as an iterator that tells everything, in its order. -/
import Derived.Test.YtkkogmgboehfdaaDoorLimbSeq
import Derived.Test.YtkkogmgboehfdaaDoorLimbJ
namespace Go.Proofs.YtkkogmgboehfdaaDoor
open Go.RowKit Go.Shelf
attribute [local go_sem] Oper.semAt_some
namespace LM

/-- the places have come from the last one down -/
def Downs {n : Nat} {ok : Nat → Nat → Prop} (ys : List (Plc n ok)) : Prop := ys.map plc = downs n ys.length ∧ ys.length ≤ n

set_option maxRecDepth 100000 in
set_option maxHeartbeats 2000000 in
theorem backward_all (n : Nat) (hn : 1 ≤ n) (Bs : Nat) (A : Option Addr) (len cap : Nat) (hlen : len ≤ 1000000) (ok : Nat → Nat → Prop)
    (w : World) (hBs : Bs < w.heap.size) (hA : 0 < len → ∀ ad, A = some ad → ad.block < w.heap.size) (h0 : BwOk Bs A len cap ok w) :
    SeqAll Fence.wide n Tryd.prog 59 #[.pointer (some ⟨Bs, 0, none⟩)] (fun x : Plc len ok => #[Value.int .i64 (x.1.1 : Int), Value.int .u32 (x.1.2 : Int)]) (BwOk Bs A len cap ok)
      Downs (fun ys => ys.map plc = downs len len) w := fun l J W hW hJ hY hJ0 => by
  have hok := h0.below hW hBs hA
  refine callsIn_of_wp Tryd.func59 rfl trivial ?_ rfl
  simp only [Tryd.ntmps59, List.size_toArray, List.length_cons, List.length_nil, Nat.reduceAdd, Nat.reduceSub, Array.replicate_succ, Array.replicate_zero, List.push_toArray, List.append_toArray, List.nil_append, List.cons_append]
  have hbox := hok.1
  gi_wp2
  gi_loopw [3] (fun i wr => ∃ (j : Nat) (pre : List (Plc len ok)), j ≤ len ∧ i = .int .i64 ((j : Int) - 1) ∧ pre.map plc = downs len (len - j) ∧ J pre wr ∧ BwOk Bs A len cap ok wr)
    (fun i _ => (intOf i + 1).toNat)
  case atStart => exact ⟨len, [], Nat.le_refl _, rfl, by simp [downs], hJ0, hok⟩
  case round =>
    clear hbox hok
    obtain ⟨j, pre, hj, rfl, hpre, hJs, hokr⟩ := hrel
    have HPRE := Lib.hid hpre
    rcases j with _ | m
    · clear hpre
      gi_wp2
      go_end0
      exact ⟨⟨_, rfl⟩, pre, HPRE.out, hJs⟩
    · have hlp : pre.length < len := by
        have h := congrArg List.length hpre
        rw [List.length_map, downs_len] at h
        omega
      clear hpre
      obtain ⟨b, off, rfl, hc⟩ := hokr.2 (by omega)
      obtain ⟨v, hv, hcv⟩ := hc m (by omega)
      have hbox := hokr.1
      have HOK := Lib.hid hokr
      clear hc hokr
      have hml : m < len := by omega
      obtain ⟨pm, hpm⟩ : ∃ pm : Plc len ok, pm = ⟨(m, v), ⟨hml, hv⟩⟩ := ⟨⟨(m, v), ⟨hml, hv⟩⟩, rfl⟩
      have hdn : (pre ++ [pm]).map plc = downs len (len - m) := by
        rw [List.map_append, HPRE.out, show len - m = (len - (m + 1)) + 1 from by omega, downs_succ]
        congr 1
        rw [hpm]
        simp [plc]; omega
      have hdl : (pre ++ [pm]).length = len - m := by
        have h := congrArg List.length hdn
        rwa [List.length_map, downs_len] at h
      obtain ⟨fn, tmps, assign, body, hy, hR⟩ := hY pre pm wr hJs ⟨by rw [hdl]; exact hdn, by omega⟩
      rw [hpm] at hy
      dsimp only at hy
      rw [show ((m + 1 : Nat) : Int) - 1 = (m : Int) from by omega]
      have HPM := Lib.hid hpm
      have HDN := Lib.hid hdn
      clear hdn hpm hdl
      gi_wp2
      refine hR.mono ?_
      rintro e W3 ⟨rfl, hJ3, hk3, hok3⟩
      have HOK3 := Lib.hid hok3
      clear hok3
      gi_wp2
      go_roundw
      case rel => exact ⟨m, pre ++ [pm], by omega, rfl, HDN.out, hJ3, HOK3.out⟩
      case measure => simp [intOf]

end LM
end Go.Proofs.YtkkogmgboehfdaaDoor
