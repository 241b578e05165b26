import Derived.Test.YtacbkpenohcgjaaGreatVMA
import Derived.Test.YtacbkpenohcgjaaGreatVNP9
import Derived.Test.YtacbkpenohcgjaaGreatVNT9
import Derived.Test.YtacbkpenohcgjaaGreatVNZ9
set_option linter.unusedVariables false
set_option linter.unusedSimpArgs false
namespace Go.Proofs.YtacbkpenohcgjaaGreat.Mth
theorem tb (n i:Nat):n.testBit i=decide (n / 2 ^ i % 2=1):=Nat.testBit_eq_decide_div_mod_eq
theorem tb_join {m n k:Nat} (hn:n<2 ^ k) (i:Nat):(m*2 ^ k+n).testBit i=if i<k then n.testBit i else m.testBit (i - k):=by
  rw [Nat.mul_comm]; exact Nat.testBit_two_pow_mul_add m hn i
theorem tb_div (m k i:Nat):(m / 2 ^ k).testBit i=m.testBit (k+i):=by rw [Nat.testBit_div_two_pow,Nat.add_comm]
theorem tb_mod (m k i:Nat):(m % 2 ^ k).testBit i=(decide (i<k)&&m.testBit i):=Nat.testBit_mod_two_pow m k i
theorem tb_up (m k i:Nat):(m*2 ^ k).testBit i=(decide (k≤i)&&m.testBit (i - k)):=by
  have h:=tb_join (m:=m) (n:=0) (k:=k) (Nat.pow_pos (by omega)) i
  rw [Nat.add_zero] at h
  rw [h]
  by_cases hi:i<k
  · rw [if_pos hi,Nat.zero_testBit,decide_eq_false (by omega),Bool.false_and]
  · rw [if_neg hi,decide_eq_true (by omega),Bool.true_and]
theorem tb_big {m w i:Nat} (hm:m<2 ^ w) (hi:w≤i):m.testBit i=false:=Nat.testBit_lt_two_pow (Nat.lt_of_lt_of_le hm (Nat.pow_le_pow_right (by omega) hi))
theorem tb_rot {m wd n i:Nat} (hm:m<2 ^ wd) (hn:n≤wd) (hi:i<wd):((m*2 ^ n+m / 2 ^ (wd - n)) % 2 ^ wd).testBit i=m.testBit (if i<n then wd - n+i else i - n):=by
  have h1:m / 2 ^ (wd - n)<2 ^ n:=Nat.div_lt_of_lt_mul (by rw [← Nat.pow_add,Nat.sub_add_cancel hn]; exact hm)
  rw [tb_mod,decide_eq_true hi,Bool.true_and,tb_join h1]
  split
  · rw [tb_div]
  · rfl
theorem rot_at {wd p i:Nat} (h1:1≤wd) (hi:i<wd):(if i<p % wd then wd - p % wd+i else i - p % wd)=(i+(wd - p % wd)) % wd:=by
  have hq:=Nat.mod_lt p (show 0<wd by omega)
  generalize p % wd=q at *
  split
  · rw [Nat.mod_eq_of_lt (by omega)]; omega
  · rw [show i+(wd - q)=(i - q)+wd by omega,Nat.add_mod_right,Nat.mod_eq_of_lt (by omega)]
theorem rotR_at {wd p i:Nat} (h1:1≤wd) (hi:i<wd):(if i<wd - p % wd then wd - (wd - p % wd)+i else i - (wd - p % wd))=(i+p) % wd:=by
  have hq:=Nat.mod_lt p (show 0<wd by omega)
  rw [Nat.add_mod,Nat.mod_eq_of_lt hi]
  generalize p % wd=q at *
  split
  · rw [Nat.mod_eq_of_lt (by omega)]; omega
  · rw [show i+q=(i - (wd - q))+wd by omega,Nat.add_mod_right,Nat.mod_eq_of_lt (by omega)]
theorem rotL_int {wd p i:Nat} (h1:1≤wd):(((i:Int) - (p:Int)).tmod (wd:Int)+(wd:Int)).tmod (wd:Int)=(((i+(wd - p % wd)) % wd:Nat):Int):=by
  have hw:(0:Int)<(wd:Int):=by omega
  have hq:=Nat.mod_lt p (show 0<wd by omega)
  have e1:-(wd:Int)<((i:Int) - (p:Int)).tmod (wd:Int):=by
    have h:=Int.lt_tmod_of_pos ((i:Int) - (p:Int)) hw
    omega
  rw [Int.tmod_eq_emod_of_nonneg (by omega),Int.add_emod_right]
  have e2:((i:Int) - (p:Int)).tmod (wd:Int) % (wd:Int)=((i:Int) - (p:Int)) % (wd:Int):=by
    have h:=Int.mul_tdiv_add_tmod ((i:Int) - (p:Int)) (wd:Int)
    have h2:((i:Int) - (p:Int)).tmod (wd:Int)=((i:Int) - (p:Int)) - (wd:Int)*(((i:Int) - (p:Int)).tdiv (wd:Int)):=by omega
    rw [h2,Int.sub_mul_emod_self_left]
  rw [e2,Int.natCast_emod]
  have e3:((i+(wd - p % wd):Nat):Int)=((i:Int) - (p:Int))+(wd:Int)*((p / wd:Nat)+1:Int):=by
    have h:=Nat.div_add_mod p wd
    have h2:((wd*(p / wd)+p % wd:Nat):Int)=(p:Int):=by rw [h]
    rw [Int.natCast_add,Int.natCast_mul] at h2
    rw [Int.mul_add,Int.mul_one,Int.natCast_add,Int.natCast_sub (by omega)]
    omega
  rw [e3,Int.add_mul_emod_self_left]
theorem tb_rep {m wd:Nat} (hm:m<2 ^ wd) (h1:1≤wd) (r:Nat→Nat) (r0:r 0=0) (rs:∀ t,r (t+1)=r t*2 ^ wd+m):∀ t i,i<wd*t→(r t).testBit i=m.testBit (i % wd)
  | 0,i,h=>by simp at h
  | t+1,i,h=>by
    rw [rs,tb_join hm]
    split
    · rename_i hi; rw [Nat.mod_eq_of_lt hi]
    · rename_i hi
      rw [tb_rep hm h1 r r0 rs t (i - wd) (by rw [Nat.mul_succ] at h; omega)]
      congr 1
      rw [← Nat.add_mod_right (i - wd) wd,Nat.sub_add_cancel (by omega)]
theorem tb_fill {q k w i:Nat} (hq:q<2 ^ k) (hk:k≤w) (hi:i<w) (b:Bool):(if b=true then q+(2 ^ w - 2 ^ k) else q).testBit i=if i<k then q.testBit i else b:=by
  cases b
  · rw [if_neg (by decide)]
    split
    · rfl
    · exact tb_big hq (by omega)
  · rw [if_pos rfl]
    have e:2 ^ w - 2 ^ k=(2 ^ (w - k) - 1)*2 ^ k:=by rw [Nat.sub_mul,← Nat.pow_add,Nat.sub_add_cancel hk,Nat.one_mul]
    rw [e,Nat.add_comm,tb_join hq]
    split
    · rfl
    · rw [Nat.testBit_two_pow_sub_one]; exact decide_eq_true (by omega)
theorem tb_top {m wd:Nat} (h1:1≤wd) (hm:m<2 ^ wd):m.testBit (wd - 1)=decide (2 ^ (wd - 1)≤m):=by
  rw [tb]
  have h2:2 ^ wd=2*2 ^ (wd - 1):=by rw [← Nat.pow_succ']; congr 1; omega
  have hp:0<2 ^ (wd - 1):=Nat.pow_pos (by omega)
  generalize 2 ^ (wd - 1)=P at *
  by_cases h:P≤m
  · rw [show m / P=1 by rw [Nat.div_eq_of_lt_le]<;>omega,decide_eq_true h]; rfl
  · rw [Nat.div_eq_of_lt (by omega),decide_eq_false h]; rfl
theorem tb_sign {m wd i w:Nat} (h1:1≤wd) (hm:m<2 ^ wd) (hw:wd≤w) (hi:i<w) :
    (if decide (2 ^ (wd - 1)≤m)=true then m+(2 ^ w - 2 ^ wd) else m).testBit i=m.testBit (if i<wd - 1 then i else wd - 1):=by
  rw [tb_fill hm hw hi,← tb_top h1 hm]
  by_cases h:i<wd
  · rw [if_pos h]; congr 1; split<;>omega
  · rw [if_neg h,if_neg (by omega)]
theorem tb_ashr {m wd s i:Nat} (h1:1≤wd) (hm:m<2 ^ wd) (hs:s≤wd) (hi:i<wd) :
    (if decide (2 ^ (wd - 1)≤m)=true then m / 2 ^ s+(2 ^ wd - 2 ^ (wd - s)) else m / 2 ^ s).testBit i=m.testBit (if i+s<wd - 1 then i+s else wd - 1):=by
  have hq:m / 2 ^ s<2 ^ (wd - s):=Nat.div_lt_of_lt_mul (by rw [← Nat.pow_add]; rwa [show s+(wd - s)=wd by omega])
  rw [tb_fill hq (by omega) hi,← tb_top h1 hm]
  by_cases h:i<wd - s
  · rw [if_pos h,tb_div]; congr 1; split<;>omega
  · rw [if_neg h,if_neg (by omega)]
end Go.Proofs.YtacbkpenohcgjaaGreat.Mth
namespace Go.Proofs.YtacbkpenohcgjaaGreat
open Go.RowKit Mth
theorem bitN_tb (n i:Nat):bitN n i=n.testBit i:=(tb n i).symm
theorem vec_sign {wd w m:Nat} (hm:m<2 ^ wd) (hw:wd≤w):vecN w (sgV wd m)=if decide (2 ^ (wd - 1)≤m)=true then m+(2 ^ w - 2 ^ wd) else m:=by
  have hp:=Nat.pow_le_pow_right (show 0<2 by omega) hw
  unfold sgV
  by_cases h:2 ^ (wd - 1)≤m
  · rw [if_pos h,decide_eq_true h,if_pos rfl]
    refine (vec_of (by omega) ?_).symm
    rw [show ((m+(2 ^ w - 2 ^ wd):Nat):Int)=((m:Int) - ((2 ^ wd:Nat):Int))+((2 ^ w:Nat):Int) by omega,Int.add_emod_right]
  · rw [if_neg h,decide_eq_false h,if_neg (by decide),vec_nat,Nat.mod_eq_of_lt (by omega)]
theorem bits_are {w N:Nat} (f:Nat→Bool) (h:∀ i,i<w→f i=N.testBit i):bitsN ((List.range w).map f)=N % 2 ^ w:=by
  rw [← bits_digB]
  congr 1
  unfold digB
  apply List.map_congr_left
  intro i hi
  rw [List.mem_range] at hi
  rw [h i hi,tb]
theorem bits_vec {w n:Nat} (f:Nat→Bool) (hn:n<2 ^ w) (h:∀ i,i<w→f i=n.testBit i):bitsN ((List.range w).map f)=n:=by
  rw [bits_are f h,Nat.mod_eq_of_lt hn]
theorem shr_high {m wd s:Nat} (hm:m<2 ^ wd) (hs:s≤wd):m / 2 ^ s+(2 ^ wd - 2 ^ (wd - s))<2 ^ wd:=by
  have hq:m / 2 ^ s<2 ^ (wd - s):=Nat.div_lt_of_lt_mul (by rw [← Nat.pow_add]; rwa [show s+(wd - s)=wd by omega])
  have:=Nat.pow_le_pow_right (show 0<2 by omega) (show wd - s≤wd by omega)
  omega
theorem vec_ashr {wd m s:Nat} (hm:m<2 ^ wd) (hs:s≤wd):vecN wd (sgV wd m / ((2 ^ s:Nat):Int))=if decide (2 ^ (wd - 1)≤m)=true then m / 2 ^ s+(2 ^ wd - 2 ^ (wd - s)) else m / 2 ^ s:=by
  have h0:=shr_high hm hs
  have hp:=Nat.pow_le_pow_right (show 0<2 by omega) (show wd - s≤wd by omega)
  have hps:0<2 ^ s:=Nat.pow_pos (by omega)
  unfold sgV
  by_cases h:2 ^ (wd - 1)≤m
  · rw [if_pos h,decide_eq_true h,if_pos rfl]
    have e:(2 ^ wd:Nat)=2 ^ s*2 ^ (wd - s):=by rw [← Nat.pow_add]; congr 1; omega
    have e1:((m:Int) - ((2 ^ wd:Nat):Int)) / ((2 ^ s:Nat):Int)=((m / 2 ^ s:Nat):Int) - ((2 ^ (wd - s):Nat):Int):=by
      rw [e,Int.natCast_mul,Int.sub_mul_ediv_left _ _ (by omega),Int.natCast_ediv]
    rw [e1]
    refine (vec_of h0 ?_).symm
    generalize 2 ^ (wd - s)=P at *
    rw [show ((m / 2 ^ s+(2 ^ wd - P):Nat):Int)=(((m / 2 ^ s:Nat):Int) - (P:Int))+((2 ^ wd:Nat):Int) by omega,Int.add_emod_right]
  · rw [if_neg h,decide_eq_false h,if_neg (by decide),← Int.natCast_ediv,vec_nat,Nat.mod_eq_of_lt (Nat.lt_of_le_of_lt (Nat.div_le_self _ _) hm)]
end Go.Proofs.YtacbkpenohcgjaaGreat
