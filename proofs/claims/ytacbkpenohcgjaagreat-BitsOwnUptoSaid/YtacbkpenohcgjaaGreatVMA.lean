import Derived.PlainAid
import Derived.Lib.BitFns
import Derived.Lib.ItoaNum
set_option linter.unusedVariables false
set_option linter.unusedSimpArgs false
namespace Go.Proofs.YtacbkpenohcgjaaGreat.Mth
def B64:Nat:=18446744073709551616
def B16:Nat:=65536
theorem B64_pos:1<B64:=by unfold B64; omega
theorem B16_pos:1<B16:=by unfold B16; omega
def val (B:Nat):List Nat→Nat
  | []=>0
  | x :: r=>x+B*val B r
def Lim (B:Nat) (xs:List Nat):Prop:=∀ j,xs.getD j 0<B
theorem lim_cons {B x:Nat} {r:List Nat}:Lim B (x :: r)↔x<B∧Lim B r:=by
  constructor
  · intro h
    exact ⟨by simpa using h 0,fun j=>by simpa using h (j+1)⟩
  · rintro ⟨h1,h2⟩ j
    cases j with
    | zero=>simpa using h1
    | succ j=>simpa using h2 j
theorem lim_nil {B:Nat} (h:0<B):Lim B []:=fun j=>by simpa using h
theorem getD_take (xs:List Nat) (n j:Nat):(xs.take n).getD j 0=if j<n then xs.getD j 0 else 0:=by
  simp only [List.getD_eq_getElem?_getD,List.getElem?_take]
  split<;>simp
theorem getD_drop (xs:List Nat) (n j:Nat):(xs.drop n).getD j 0=xs.getD (n+j) 0:=by
  simp only [List.getD_eq_getElem?_getD,List.getElem?_drop]
theorem getD_ge (xs:List Nat) (j:Nat) (h:xs.length≤j):xs.getD j 0=0:=by
  simp [List.getD_eq_getElem?_getD,List.getElem?_eq_none h]
theorem lim_take {B:Nat} {xs:List Nat} (hB:0<B) (h:Lim B xs) (n:Nat):Lim B (xs.take n):=by
  intro j; rw [getD_take]; split
  · exact h j
  · exact hB
theorem lim_drop {B:Nat} {xs:List Nat} (h:Lim B xs) (n:Nat):Lim B (xs.drop n):=by
  intro j; rw [getD_drop]; exact h _
theorem val_append (B:Nat) (xs ys:List Nat):val B (xs++ys)=val B xs+B ^ xs.length*val B ys:=by
  induction xs with
  | nil=>simp [val]
  | cons x r ih=>simp only [List.cons_append,val,ih,List.length_cons,Nat.pow_succ,Nat.mul_add]; rw [Nat.mul_comm (B ^ r.length) B,Nat.mul_assoc]; omega
theorem val_split (B:Nat) (xs:List Nat) (n:Nat) (h:n≤xs.length):val B xs=val B (xs.take n)+B ^ n*val B (xs.drop n):=by
  have:=val_append B (xs.take n) (xs.drop n)
  rw [List.take_append_drop,List.length_take,Nat.min_eq_left h] at this
  exact this
theorem val_lt {B:Nat} {xs:List Nat} (h:Lim B xs):val B xs<B ^ xs.length:=by
  induction xs with
  | nil=>simp [val]
  | cons x r ih =>
    obtain ⟨h1,h2⟩:=lim_cons.1 h
    have:=ih h2
    simp only [val,List.length_cons,Nat.pow_succ]
    have h3:B*(val B r+1)≤B*B ^ r.length:=Nat.mul_le_mul_left _ this
    rw [Nat.mul_add,Nat.mul_one] at h3
    rw [Nat.mul_comm (B ^ r.length) B]
    omega
theorem val_take_lt {B:Nat} {xs:List Nat} (hB:0<B) (h:Lim B xs) (n:Nat) (hn:n≤xs.length):val B (xs.take n)<B ^ n:=by
  have:=val_lt (lim_take hB h n)
  rwa [List.length_take,Nat.min_eq_left hn] at this
theorem drop_cons {xs:List Nat} {n:Nat} (h:n<xs.length):xs.drop n=xs.getD n 0 :: xs.drop (n+1):=by
  rw [List.drop_eq_getElem_cons h]; simp [List.getD_eq_getElem?_getD,h]
theorem take_snoc {xs:List Nat} {n:Nat} (h:n<xs.length):xs.take (n+1)=xs.take n++[xs.getD n 0]:=by
  rw [List.take_succ_eq_append_getElem h]; simp [List.getD_eq_getElem?_getD,h]
theorem val_take_succ (B:Nat) (xs:List Nat) (n:Nat) (h:n<xs.length):val B (xs.take (n+1))=val B (xs.take n)+B ^ n*xs.getD n 0:=by
  rw [take_snoc h,val_append,List.length_take,Nat.min_eq_left (by omega)]; simp [val]
theorem val_drop (B:Nat) (xs:List Nat) (n:Nat) (h:n<xs.length):val B (xs.drop n)=xs.getD n 0+B*val B (xs.drop (n+1)):=by
  rw [drop_cons h]; rfl
theorem val_zero {B:Nat} {xs:List Nat} (h:∀ j,xs.getD j 0=0):val B xs=0:=by
  induction xs with
  | nil=>rfl
  | cons x r ih =>
    have h0:x=0:=by simpa using h 0
    have:=ih (fun j=>by simpa using h (j+1))
    simp [val,h0,this]
theorem zero_of_val {B:Nat} (hB:0<B) {xs:List Nat} (h:val B xs=0):∀ j,xs.getD j 0=0:=by
  induction xs with
  | nil=>intro j; simp
  | cons x r ih =>
    simp only [val] at h
    have h2:val B r=0:=by
      rcases Nat.eq_zero_or_pos (val B r) with h0 | h0
      · exact h0
      · have:=Nat.mul_pos hB h0; omega
    intro j
    cases j with
    | zero=>simp; omega
    | succ j=>simpa using ih h2 j
theorem val_take_zero {B:Nat} {xs:List Nat} {n:Nat} (h:∀ j,n≤j→xs.getD j 0=0):val B (xs.take n)=val B xs:=by
  by_cases hn:n≤xs.length
  · rw [val_split B xs n hn,val_zero (xs:=xs.drop n) (fun j=>by rw [getD_drop]; exact h _ (by omega))]; simp
  · rw [List.take_of_length_le (by omega)]
def tlen:List Nat→Nat
  | []=>0
  | x :: r=>if tlen r=0 then (if x=0 then 0 else 1) else tlen r+1
theorem tlen_le (xs:List Nat):tlen xs≤xs.length:=by
  induction xs with
  | nil=>simp [tlen]
  | cons x r ih=>simp only [tlen,List.length_cons]; split<;>(try split)<;>omega
theorem tlen_zero (xs:List Nat):∀ j,tlen xs≤j→xs.getD j 0=0:=by
  induction xs with
  | nil=>intro j _; simp
  | cons x r ih =>
    intro j hj
    simp only [tlen] at hj
    cases j with
    | zero =>
      split at hj
      · split at hj
        · simpa using ‹x=0›
        · omega
      · omega
    | succ j =>
      have:=ih j (by split at hj<;>(try split at hj)<;>omega)
      simpa using this
theorem tlen_top (xs:List Nat) (h:0<tlen xs):xs.getD (tlen xs - 1) 0≠0:=by
  induction xs with
  | nil=>simp [tlen] at h
  | cons x r ih =>
    simp only [tlen] at h ⊢
    split at h
    · rename_i h0
      rw [if_pos h0]
      split at h
      · omega
      · rename_i hx
        rw [if_neg hx]; simpa using hx
    · rename_i h0
      rw [if_neg h0]
      have:=ih (by omega)
      have e:tlen r+1 - 1=(tlen r - 1)+1:=by omega
      rw [e]; simpa using this
theorem tlen_eq {xs:List Nat} {n:Nat} (h0:∀ j,n≤j→xs.getD j 0=0) (h1:n=0∨xs.getD (n - 1) 0≠0):tlen xs=n:=by
  rcases Nat.lt_trichotomy (tlen xs) n with h | h | h
  · rcases h1 with h1 | h1
    · omega
    · exact absurd (tlen_zero xs (n - 1) (by omega)) h1
  · exact h
  · exact absurd (h0 (tlen xs - 1) (by omega)) (tlen_top xs (by omega))
def Top (xs:List Nat):Prop:=tlen xs=xs.length
def trimL (xs:List Nat):List Nat:=xs.take (tlen xs)
theorem length_trimL (xs:List Nat):(trimL xs).length=tlen xs:=by
  rw [trimL,List.length_take,Nat.min_eq_left (tlen_le xs)]
theorem getD_trimL (xs:List Nat) (j:Nat):(trimL xs).getD j 0=xs.getD j 0:=by
  rw [trimL,getD_take]; split
  · rfl
  · exact (tlen_zero xs j (by omega)).symm
theorem val_trimL (B:Nat) (xs:List Nat):val B (trimL xs)=val B xs:=val_take_zero (tlen_zero xs)
theorem top_trimL (xs:List Nat):Top (trimL xs):=by
  unfold Top
  rw [length_trimL]
  refine tlen_eq (fun j hj=>by rw [getD_trimL]; exact tlen_zero xs j hj) ?_
  rcases Nat.eq_zero_or_pos (tlen xs) with h | h
  · exact .inl h
  · exact .inr (by rw [getD_trimL]; exact tlen_top xs h)
theorem lim_trimL {B:Nat} {xs:List Nat} (h:Lim B xs):Lim B (trimL xs):=fun j=>by rw [getD_trimL]; exact h j
theorem trimL_of_top {xs:List Nat} (h:Top xs):trimL xs=xs:=by
  unfold trimL; rw [h]; simp
theorem val_ge {B:Nat} {xs:List Nat} {n:Nat} (h:xs.getD n 0≠0):B ^ n≤val B xs:=by
  have hn:n<xs.length:=by
    rcases Nat.lt_or_ge n xs.length with h1 | h1
    · exact h1
    · exact absurd (getD_ge xs n h1) h
  rw [val_split B xs n (by omega),val_drop B xs n hn]
  have:B ^ n*1≤B ^ n*(xs.getD n 0+B*val B (xs.drop (n+1))):=Nat.mul_le_mul_left _ (by omega)
  omega
theorem val_ge_top {B:Nat} {xs:List Nat} (h:Top xs) (hp:0<xs.length):B ^ (xs.length - 1)≤val B xs:=by
  refine val_ge ?_
  have:=tlen_top xs (by rw [h]; exact hp)
  rwa [h] at this
theorem list_uniq {B:Nat} (hB:0<B):∀ {xs ys:List Nat},Lim B xs→Lim B ys→xs.length=ys.length→val B xs=val B ys→xs=ys
  | [],[],_,_,_,_=>rfl
  | [],_ :: _,_,_,hl,_=>by simp at hl
  | _ :: _,[],_,_,hl,_=>by simp at hl
  | x :: r,y :: s,hx,hy,hl,hv=>by
    obtain ⟨hx1,hx2⟩:=lim_cons.1 hx
    obtain ⟨hy1,hy2⟩:=lim_cons.1 hy
    simp only [val] at hv
    have e1:(x+B*val B r) % B=x:=by rw [Nat.add_mul_mod_self_left,Nat.mod_eq_of_lt hx1]
    have e2:(y+B*val B s) % B=y:=by rw [Nat.add_mul_mod_self_left,Nat.mod_eq_of_lt hy1]
    have exy:x=y:=by rw [← e1,hv,e2]
    subst exy
    have:B*val B r=B*val B s:=by omega
    have:=Nat.eq_of_mul_eq_mul_left hB this
    rw [list_uniq hB hx2 hy2 (by simpa using hl) this]
theorem length_of_val {B:Nat} (hB:1<B) {xs:List Nat} (ht:Top xs) (n:Nat) (h:val B xs<B ^ n):xs.length≤n:=by
  rcases Nat.lt_or_ge n xs.length with h1 | h1
  · have h2:=val_ge_top (B:=B) ht (by omega)
    have h3:B ^ n≤B ^ (xs.length - 1):=Nat.pow_le_pow_right (by omega) (by omega)
    omega
  · exact h1
theorem top_uniq {B:Nat} (hB:1<B) {xs ys:List Nat} (hx:Lim B xs) (hy:Lim B ys) (tx:Top xs) (ty:Top ys) (h:val B xs=val B ys):xs=ys:=by
  refine list_uniq (by omega) hx hy ?_ h
  have h1:=length_of_val hB tx ys.length (by rw [h]; exact val_lt hy)
  have h2:=length_of_val hB ty xs.length (by rw [← h]; exact val_lt hx)
  omega
theorem val_lt_of_top {B:Nat} (hB:0<B) {xs ys:List Nat} (hx:Lim B xs) {i:Nat} (hxi:i<xs.length) (hyi:i<ys.length)
    (hd:val B (xs.drop (i+1))=val B (ys.drop (i+1))) (h:xs.getD i 0<ys.getD i 0):val B xs<val B ys:=by
  rw [val_split B xs i (by omega),val_split B ys i (by omega),val_drop B xs i hxi,val_drop B ys i hyi,hd]
  have h1:=val_take_lt hB hx i (by omega)
  have h2:B ^ i*(xs.getD i 0+B*val B (ys.drop (i+1))+1)≤B ^ i*(ys.getD i 0+B*val B (ys.drop (i+1))):=Nat.mul_le_mul_left _ (by omega)
  rw [Nat.mul_add,Nat.mul_one] at h2
  omega
theorem val_lt_of_length {B:Nat} (hB:1<B) {xs ys:List Nat} (hx:Lim B xs) (ty:Top ys) (h:xs.length<ys.length):val B xs<val B ys:=by
  have h1:=val_lt hx
  have h2:=val_ge_top (B:=B) ty (by omega)
  have h3:B ^ xs.length≤B ^ (ys.length - 1):=Nat.pow_le_pow_right (by omega) (by omega)
  omega
def cmp3 (a b:Nat):Int:=if a<b then -1 else if b<a then 1 else 0
def halves:List Nat→List Nat
  | []=>[]
  | x :: r=>x % 65536 :: x / 65536 % 65536 :: x / 4294967296 % 65536 :: x / 281474976710656 % 65536 :: halves r
theorem length_halves (xs:List Nat):(halves xs).length=4*xs.length:=by
  induction xs with
  | nil=>rfl
  | cons x r ih=>simp only [halves,List.length_cons,ih]; omega
theorem lim_halves (xs:List Nat):Lim B16 (halves xs):=by
  unfold B16
  induction xs with
  | nil=>exact lim_nil (by omega)
  | cons x r ih =>
    simp only [halves,lim_cons]
    exact ⟨by omega,by omega,by omega,by omega,ih⟩
theorem halves_append (xs ys:List Nat):halves (xs++ys)=halves xs++halves ys:=by
  induction xs with
  | nil=>rfl
  | cons x r ih=>simp [halves,ih]
theorem val_halves {xs:List Nat} (h:Lim B64 xs):val B16 (halves xs)=val B64 xs:=by
  unfold B16 B64 at *
  induction xs with
  | nil=>rfl
  | cons x r ih =>
    obtain ⟨h1,h2⟩:=lim_cons.1 h
    have:=ih h2
    simp only [halves,val,this]
    generalize val 18446744073709551616 r=v
    omega
def mHi (x y:Nat):Nat:=x*y / B64
def mLo (x y:Nat):Nat:=x*y % B64
def aLo (x y c:Nat):Nat:=(x+y+c) % B64
def aHi (x y c:Nat):Nat:=(x+y+c) / B64
def sLo (x y b:Nat):Nat:=(x+B64 - y - b) % B64
def sHi (x y b:Nat):Nat:=if x<y+b then 1 else 0
def pHi (x y p:Nat):Nat:=(x*y+p) / B64
def pLo (x y p:Nat):Nat:=(x*y+p) % B64
theorem mod64_lt (n:Nat):n % B64<B64:=Nat.mod_lt _ (by have:=B64_pos; omega)
theorem mLo_lt (x y:Nat):mLo x y<B64:=mod64_lt _
theorem aLo_lt (x y c:Nat):aLo x y c<B64:=mod64_lt _
theorem pLo_lt (x y c:Nat):pLo x y c<B64:=mod64_lt _
theorem sLo_lt (x y c:Nat):sLo x y c<B64:=mod64_lt _
theorem aHi_le {x y c:Nat} (hx:x<B64) (hy:y<B64) (hc:c≤1):aHi x y c≤1:=by
  have h:(x+y+c) / B64<2:=by rw [Nat.div_lt_iff_lt_mul (by have:=B64_pos; omega)]; omega
  unfold aHi; omega
theorem a_eq (x y c:Nat):aLo x y c+B64*aHi x y c=x+y+c:=Nat.mod_add_div _ _
theorem p_eq (x y p:Nat):pLo x y p+B64*pHi x y p=x*y+p:=Nat.mod_add_div _ _
theorem m_eq (x y:Nat):mLo x y+B64*mHi x y=x*y:=Nat.mod_add_div _ _
theorem sHi_le (x y b:Nat):sHi x y b≤1:=by unfold sHi; split<;>omega
theorem s_eq {x y b:Nat} (hx:x<B64) (hy:y<B64) (hb:b≤1):sLo x y b+y+b=x+B64*sHi x y b:=by
  unfold sLo sHi
  unfold B64 at *
  split<;>omega
theorem uniq64 {a b c d:Nat} (ha:a<B64) (hc:c<B64) (h:a+B64*b=c+B64*d):a=c∧b=d:=by
  have h1:(a+B64*b) % B64=a:=by rw [Nat.add_mul_mod_self_left,Nat.mod_eq_of_lt ha]
  have h2:(c+B64*d) % B64=c:=by rw [Nat.add_mul_mod_self_left,Nat.mod_eq_of_lt hc]
  have e:a=c:=by rw [← h1,h,h2]
  subst e
  exact ⟨rfl,Nat.eq_of_mul_eq_mul_left (by have:=B64_pos; omega:0<B64) (by omega)⟩
theorem pHi_lt {x y p:Nat} (hx:x<B64) (hy:y<B64) (hp:p<B64):pHi x y p<B64:=by
  have hB:0<B64:=by have:=B64_pos; omega
  unfold pHi
  rw [Nat.div_lt_iff_lt_mul hB]
  have h2:x*y≤(B64 - 1)*(B64 - 1):=Nat.mul_le_mul (by omega) (by omega)
  have h3:(B64 - 1)*(B64 - 1)+(B64 - 1)<B64*B64:=by unfold B64; omega
  omega
theorem p_steps {x y p:Nat}:aLo (mLo x y) p 0=pLo x y p∧mHi x y+aHi (mLo x y) p 0=pHi x y p:=by
  refine uniq64 (aLo_lt _ _ _) (pLo_lt _ _ _) ?_
  have e1:=a_eq (mLo x y) p 0
  have e2:=m_eq x y
  have e3:=p_eq x y p
  rw [Nat.mul_add]
  omega
theorem lim_set {B:Nat} {xs:List Nat} (h:Lim B xs) {x:Nat} (hx:x<B) (i:Nat):Lim B (xs.set i x):=by
  intro j
  by_cases hi:i<xs.length
  · simp only [List.getD_eq_getElem?_getD,List.getElem?_set]
    split
    · subst_vars; simpa [hi] using hx
    · have:=h j; simpa [List.getD_eq_getElem?_getD] using this
  · rw [List.set_eq_of_length_le (by omega)]; exact h j
theorem getD_set' (xs:List Nat) (i x j:Nat) (hi:i<xs.length):(xs.set i x).getD j 0=if j=i then x else xs.getD j 0:=by
  simp only [List.getD_eq_getElem?_getD,List.getElem?_set]
  split
  · subst_vars; simp only [if_true,Option.getD_some]
  · rename_i h; rw [if_neg (fun e=>h e.symm)]
theorem take_congr {xs ys:List Nat} {n:Nat} (hx:n≤xs.length) (hy:n≤ys.length) (h:∀ j,j<n→xs.getD j 0=ys.getD j 0):xs.take n=ys.take n:=by
  apply List.ext_getElem?
  intro j
  simp only [List.getElem?_take]
  split
  · rename_i hj
    have:=h j hj
    rw [List.getElem?_eq_getElem (by omega),List.getElem?_eq_getElem (by omega)]
    simpa [List.getD_eq_getElem?_getD,show j<xs.length by omega,show j<ys.length by omega] using this
  · rfl
theorem list_congr {xs ys:List Nat} (hl:xs.length=ys.length) (h:∀ j,j<xs.length→xs.getD j 0=ys.getD j 0):xs=ys:=by
  have:=take_congr (n:=xs.length) (Nat.le_refl _) (by omega) h
  rwa [List.take_length,hl,List.take_length] at this
def seg (R:List Nat) (off n:Nat):Nat:=val B64 ((R.drop off).take n)
theorem seg_zero (R:List Nat) (off:Nat):seg R off 0=0:=by simp [seg,val]
theorem seg_succ (R:List Nat) (off n:Nat) (h:off+n<R.length):seg R off (n+1)=seg R off n+B64 ^ n*R.getD (off+n) 0:=by
  unfold seg
  rw [val_take_succ B64 _ n (by rw [List.length_drop]; omega),getD_drop]
theorem seg_congr {R R':List Nat} {off n:Nat} (hl:R.length=R'.length) (h:∀ j,off≤j→j<off+n→R.getD j 0=R'.getD j 0) (hn:off+n≤R.length):seg R off n=seg R' off n:=by
  unfold seg
  rw [take_congr (ys:=R'.drop off) (by rw [List.length_drop]; omega) (by rw [List.length_drop]; omega)]
  intro j hj
  rw [getD_drop,getD_drop]
  exact h _ (by omega) (by omega)
structure AddT (R R':List Nat) (off:Nat) (b:List Nat) (x k c:Nat):Prop where
  len:R'.length=R.length
  rest:∀ j,j<off∨off+k≤j→R'.getD j 0=R.getD j 0
  lim:Lim B64 R'
  clt:c<B64
  eq:seg R' off k+B64 ^ k*c=seg R off k+x*val B64 (b.take k)
theorem addT_zero {R:List Nat} {off:Nat} {b:List Nat} {x:Nat} (h:Lim B64 R):AddT R R off b x 0 0 :=
  ⟨rfl,fun _ _=>rfl,h,by have:=B64_pos; omega,by simp [seg_zero,val]⟩
def carryT (x y c s:Nat):Nat:=pHi x y c+aHi (pLo x y c) s 0
theorem carryT_lt {x y c s:Nat} (hx:x<B64) (hy:y<B64) (hc:c<B64) (hs:s<B64):carryT x y c s<B64:=by
  have e1:=p_eq x y c
  have e2:=a_eq (pLo x y c) s 0
  have h2:x*y≤(B64 - 1)*(B64 - 1):=Nat.mul_le_mul (by omega) (by omega)
  have h3:(B64 - 1)*(B64 - 1)+2*(B64 - 1)<B64*B64:=by unfold B64; omega
  have h4:B64*carryT x y c s<B64*B64:=by
    unfold carryT
    rw [Nat.mul_add]
    omega
  exact Nat.lt_of_mul_lt_mul_left h4
theorem addT_step {R R':List Nat} {off:Nat} {b:List Nat} {x k c:Nat} (h:AddT R R' off b x k c) (hx:x<B64) (hb:Lim B64 b) (hk:k<b.length) (hoff:off+b.length≤R.length) :
    AddT R (R'.set (off+k) (aLo (pLo x (b.getD k 0) c) (R'.getD (off+k) 0) 0)) off b x (k+1) (carryT x (b.getD k 0) c (R'.getD (off+k) 0)):=by
  have hl:=h.len
  refine ⟨by rw [List.length_set,hl], ?_,lim_set h.lim (aLo_lt _ _ _) _,carryT_lt hx (hb k) h.clt (h.lim _), ?_⟩
  · intro j hj
    rw [getD_set' _ _ _ _ (by omega),if_neg (by omega)]
    exact h.rest j (by omega)
  · rw [seg_succ _ _ _ (by rw [List.length_set]; omega),getD_set' _ _ _ _ (by omega),if_pos rfl,seg_succ R off k (by omega),val_take_succ B64 b k hk]
    have e0:seg (R'.set (off+k) (aLo (pLo x (b.getD k 0) c) (R'.getD (off+k) 0) 0)) off k=seg R' off k :=
      seg_congr (by rw [List.length_set]) (fun j h1 h2=>by rw [getD_set' _ _ _ _ (by omega),if_neg (by omega)]) (by rw [List.length_set]; omega)
    rw [e0]
    have e1:=p_eq x (b.getD k 0) c
    have e2:=a_eq (pLo x (b.getD k 0) c) (R'.getD (off+k) 0) 0
    have e3:=h.eq
    have e4:=h.rest (off+k) (by omega)
    rw [e4] at e2 ⊢
    unfold carryT
    generalize aLo (pLo x (b.getD k 0) c) (R.getD (off+k) 0) 0=al at *
    generalize aHi (pLo x (b.getD k 0) c) (R.getD (off+k) 0) 0=ah at *
    generalize pLo x (b.getD k 0) c=pl at *
    generalize pHi x (b.getD k 0) c=ph at *
    generalize b.getD k 0=y at *
    generalize R.getD (off+k) 0=s at *
    generalize seg R' off k=s1 at *
    generalize seg R off k=s2 at *
    generalize val B64 (b.take k)=vb at *
    have e5:al+B64*(ph+ah)=x*y+c+s:=by rw [Nat.mul_add]; omega
    have e6:B64 ^ (k+1)*(ph+ah)=B64 ^ k*(B64*(ph+ah)):=by rw [Nat.pow_succ,Nat.mul_assoc]
    have e7:B64 ^ k*al+B64 ^ k*(B64*(ph+ah))=B64 ^ k*(x*y+c+s):=by rw [← Nat.mul_add,e5]
    have e8:B64 ^ k*(x*y+c+s)=x*(B64 ^ k*y)+B64 ^ k*c+B64 ^ k*s:=by
      rw [Nat.mul_add,Nat.mul_add,← Nat.mul_assoc,Nat.mul_comm (B64 ^ k) x,Nat.mul_assoc]
    rw [e6,Nat.mul_add x vb]
    omega
theorem seg_split (R:List Nat) (i n:Nat) (h:i+n≤R.length):seg R 0 (i+n)=seg R 0 i+B64 ^ i*seg R i n:=by
  induction n with
  | zero=>simp [seg_zero]
  | succ n ih =>
    have h1:=seg_succ R 0 (i+n) (by omega)
    have h2:=seg_succ R i n (by omega)
    have h3:=ih (by omega)
    rw [Nat.zero_add] at h1
    rw [show i+(n+1)=i+n+1 from rfl,h1,h2,h3,Nat.mul_add,Nat.pow_add,Nat.mul_assoc]
    omega
theorem seg_all (R:List Nat):seg R 0 R.length=val B64 R:=by simp [seg]
structure TimesI (R xs ys:List Nat) (i:Nat):Prop where
  len:R.length=xs.length+ys.length
  zero:∀ j,i+ys.length≤j→R.getD j 0=0
  lim:Lim B64 R
  eq:seg R 0 (i+ys.length)=val B64 (xs.take i)*val B64 ys
theorem getD_replicate (n j:Nat):(List.replicate n 0).getD j 0=0:=by
  simp only [List.getD_eq_getElem?_getD,List.getElem?_replicate]
  split<;>rfl
theorem times_zero (xs ys:List Nat):TimesI (List.replicate (xs.length+ys.length) 0) xs ys 0:=by
  refine ⟨by simp,fun j _=>getD_replicate _ _,fun j=>by rw [getD_replicate]; have:=B64_pos; omega, ?_⟩
  simp only [List.take_zero,val,Nat.zero_mul,seg]
  refine val_zero fun j=>?_
  rw [getD_take]
  split
  · rw [getD_drop,getD_replicate]
  · rfl
theorem times_step {R R' xs ys:List Nat} {i c:Nat} (h:TimesI R xs ys i) (hi:i<xs.length) (hA:AddT R R' i ys (xs.getD i 0) ys.length c) :
    TimesI (R'.set (i+ys.length) c) xs ys (i+1):=by
  have hl:=h.len
  have hl':=hA.len
  refine ⟨by rw [List.length_set]; omega, ?_,lim_set hA.lim hA.clt _, ?_⟩
  · intro j hj
    rw [getD_set' _ _ _ _ (by omega),if_neg (by omega),hA.rest j (by omega)]
    exact h.zero j (by omega)
  · have e1:=seg_succ (R'.set (i+ys.length) c) 0 (i+ys.length) (by rw [List.length_set]; omega)
    rw [Nat.zero_add,getD_set' _ _ _ _ (by omega),if_pos rfl] at e1
    have e2:seg (R'.set (i+ys.length) c) 0 (i+ys.length)=seg R' 0 (i+ys.length) :=
      seg_congr (by rw [List.length_set]) (fun j h1 h2=>by rw [getD_set' _ _ _ _ (by omega),if_neg (by omega)]) (by rw [List.length_set]; omega)
    have e3:=seg_split R' i ys.length (by omega)
    have e4:=seg_split R i ys.length (by omega)
    have e5:seg R' 0 i=seg R 0 i:=seg_congr hl' (fun j h1 h2=>hA.rest j (by omega)) (by omega)
    have e6:=hA.eq
    rw [List.take_length] at e6
    have e7:=h.eq
    have e8:=val_take_succ B64 xs i hi
    rw [show i+1+ys.length=i+ys.length+1 by omega,e1,e2,e3,e5,e8,Nat.add_mul,← e7,e4,Nat.pow_add,Nat.mul_assoc]
    have e9:B64 ^ i*seg R' i ys.length+B64 ^ i*(B64 ^ ys.length*c)=B64 ^ i*seg R i ys.length+B64 ^ i*(xs.getD i 0)*val B64 ys:=by
      rw [← Nat.mul_add,e6,Nat.mul_add,Nat.mul_assoc]
    omega
theorem times_end {R xs ys:List Nat} (h:TimesI R xs ys xs.length):val B64 R=val B64 xs*val B64 ys:=by
  have:=h.eq
  rw [← h.len,seg_all,List.take_length] at this
  exact this
theorem pos_of_top {xs:List Nat} (h:Top xs) (hp:0<xs.length):0<val B64 xs :=
  Nat.lt_of_lt_of_le (Nat.pow_pos (by have:=B64_pos; omega)) (val_ge_top h hp)
theorem times_long {m:Nat} {xs ys:List Nat} (tx:Top xs) (ty:Top ys) (hx:0<xs.length) (hy:0<ys.length) (h:m<xs.length+ys.length - 1):B64 ^ m≤val B64 xs*val B64 ys:=by
  have h1:=val_ge_top (B:=B64) tx hx
  have h2:=val_ge_top (B:=B64) ty hy
  have h3:=Nat.mul_le_mul h1 h2
  rw [← Nat.pow_add] at h3
  exact Nat.le_trans (Nat.pow_le_pow_right (by have:=B64_pos; omega) (by omega)) h3
theorem long_gen {m:Nat} {xs:List Nat} (hx:Lim B64 xs):m<(trimL xs).length↔B64 ^ m≤val B64 xs:=by
  constructor
  · intro h
    have h1:=val_ge_top (B:=B64) (top_trimL xs) (by omega)
    rw [val_trimL] at h1
    exact Nat.le_trans (Nat.pow_le_pow_right (by have:=B64_pos; omega) (by omega)) h1
  · intro h
    have h1:=val_lt (lim_trimL hx)
    rw [val_trimL] at h1
    rcases Nat.lt_or_ge m (trimL xs).length with h2 | h2
    · exact h2
    · have h3:B64 ^ (trimL xs).length≤B64 ^ m:=Nat.pow_le_pow_right (by have:=B64_pos; omega) h2
      omega
def maxL:Nat:=4096
def Big:Nat:=B64 ^ maxL
theorem long_iff {xs:List Nat} (hx:Lim B64 xs):4096<(trimL xs).length↔Big≤val B64 xs:=long_gen (m:=maxL) hx
def cutN (n:Nat):Nat:=if Big≤n then 0 else n
def cutE (n:Nat):Int:=if Big≤n then 5 else 0
def prodL:List (List Nat)→Nat
  | []=>1
  | x :: r=>val B64 x*prodL r
theorem prodL_append (xs ys:List (List Nat)):prodL (xs++ys)=prodL xs*prodL ys:=by
  induction xs with
  | nil=>simp [prodL]
  | cons x r ih=>simp only [List.cons_append,prodL,ih,Nat.mul_assoc]
theorem prodL_split (xs:List (List Nat)) (n:Nat):prodL xs=prodL (xs.take n)*prodL (xs.drop n):=by
  rw [← prodL_append,List.take_append_drop]
theorem prodL_pos {xs:List (List Nat)} (h:∀ x∈xs,0<val B64 x):0<prodL xs:=by
  induction xs with
  | nil=>simp [prodL]
  | cons x r ih=>exact Nat.mul_pos (h x (by simp)) (ih fun y hy=>h y (by simp [hy]))
theorem prodL_zero {xs:List (List Nat)} {x:List Nat} (hx:x∈xs) (h:val B64 x=0):prodL xs=0:=by
  induction xs with
  | nil=>cases hx
  | cons y r ih =>
    simp only [prodL]
    rcases List.mem_cons.1 hx with e | e
    · subst e; rw [h]; simp
    · rw [ih e]; simp
theorem cut_small {n:Nat} (h:n<Big):cutN n=n∧cutE n=0:=⟨if_neg (by omega),if_neg (by omega)⟩
theorem cut_big {n:Nat} (h:Big≤n):cutN n=0∧cutE n=5:=⟨if_pos h,if_pos h⟩
theorem big_mul_left {a b:Nat} (h:Big≤a) (hb:0<b):Big≤a*b:=Nat.le_trans h (Nat.le_mul_of_pos_right a hb)
theorem big_mul_right {a b:Nat} (h:Big≤b) (ha:0<a):Big≤a*b:=Nat.le_trans h (Nat.le_mul_of_pos_left b ha)
theorem one_lt_big:1<Big:=by
  have h1:B64 ^ 1≤B64 ^ maxL:=Nat.pow_le_pow_right (by have:=B64_pos; omega) (by unfold maxL; omega)
  have h2:=B64_pos
  have h3:Big=B64 ^ maxL:=rfl
  rw [Nat.pow_one] at h1
  omega
def longL (xss:List (List Nat)) (n:Nat):Prop:=∃ j,j<n∧Big≤val B64 (xss.getD j [])
def zeroL (xss:List (List Nat)) (n:Nat):Bool:=(xss.take n).any fun x=>val B64 x == 0
theorem zeroL_succ {xss:List (List Nat)} {n:Nat} (h:n<xss.length):zeroL xss (n+1)=(zeroL xss n || (val B64 (xss.getD n []) == 0)):=by
  unfold zeroL
  rw [List.take_succ_eq_append_getElem h,List.any_append]
  simp [List.getD_eq_getElem?_getD,h]
theorem getDL_mem {xss:List (List Nat)} {x:List Nat} (h:x∈xss):∃ j,j<xss.length∧xss.getD j []=x:=by
  obtain ⟨j,hj,e⟩:=List.mem_iff_getElem.1 h
  exact ⟨j,hj,by simp [List.getD_eq_getElem?_getD,hj,e]⟩
noncomputable def mulN (xss:List (List Nat)):Nat:=open Classical in if longL xss xss.length then 0 else cutN (prodL xss)
noncomputable def mulE (xss:List (List Nat)):Int:=open Classical in if longL xss xss.length then 5 else cutE (prodL xss)
def hf (x k:Nat):Nat:=x / 65536 ^ k % 65536
def quad (x:Nat):List Nat:=[hf x 0,hf x 1,hf x 2,hf x 3]
theorem halves_one (x:Nat):halves [x]=quad x:=by
  simp only [halves,quad,hf]
  simp
theorem halves_take_succ {xs:List Nat} {k:Nat} (h:k<xs.length):halves (xs.take (k+1))=halves (xs.take k)++quad (xs.getD k 0):=by
  rw [take_snoc h,halves_append,halves_one]
theorem quad_take (x m:Nat) (h:m<4):(quad x).take (m+1)=(quad x).take m++[hf x m]:=by
  have:m=0∨m=1∨m=2∨m=3:=by omega
  rcases this with rfl | rfl | rfl | rfl<;>rfl
theorem b16_4:B16 ^ 4=B64:=by unfold B16 B64; rfl
theorem nil_iff {xs:List Nat}:(trimL xs).length=0↔val B64 xs=0:=by
  rw [length_trimL]
  constructor
  · intro h; rw [← val_trimL]; simp [trimL,h,val]
  · intro h; exact tlen_eq (fun j _=>zero_of_val (by have:=B64_pos; omega) h j) (.inl rfl)
end Go.Proofs.YtacbkpenohcgjaaGreat.Mth
namespace Go.Proofs.YtacbkpenohcgjaaGreat.Mth
theorem b16_big:B16 ^ (4*maxL)=Big:=by
  rw [Nat.pow_mul,b16_4]; rfl
theorem hlong_gen {m:Nat} {xs:List Nat} (hx:Lim B16 xs) (ht:Top xs):m<xs.length↔B16 ^ m≤val B16 xs:=by
  constructor
  · intro h
    have h1:=val_ge_top (B:=B16) ht (by omega)
    exact Nat.le_trans (Nat.pow_le_pow_right (by have:=B16_pos; omega) (by omega)) h1
  · intro h
    have h1:=val_lt hx
    rcases Nat.lt_or_ge m xs.length with h2 | h2
    · exact h2
    · have h3:B16 ^ xs.length≤B16 ^ m:=Nat.pow_le_pow_right (by have:=B16_pos; omega) h2
      omega
theorem hlong_iff {xs:List Nat} (hx:Lim B16 xs) (ht:Top xs):16384<xs.length↔Big≤val B16 xs:=by
  have:=hlong_gen (m:=4*maxL) hx ht
  rw [b16_big] at this
  exact this
def longB (xss:List (List Nat)) (n:Nat):Bool:=(xss.take n).any fun x=>decide (Big≤val B64 x)
theorem longB_iff (xss:List (List Nat)):longB xss xss.length=true↔longL xss xss.length:=by
  unfold longB longL
  rw [List.take_length,List.any_eq_true]
  constructor
  · rintro ⟨x,hx,h⟩
    obtain ⟨j,hj,rfl⟩:=getDL_mem hx
    exact ⟨j,hj,of_decide_eq_true h⟩
  · rintro ⟨j,hj,h⟩
    refine ⟨xss.getD j [], ?_,decide_eq_true h⟩
    rw [List.getD_eq_getElem?_getD,List.getElem?_eq_getElem hj]
    exact List.getElem_mem hj
theorem val_take_succ' (B:Nat) (xs:List Nat) (n:Nat):val B (xs.take (n+1))=val B (xs.take n)+B ^ n*xs.getD n 0:=by
  rcases Nat.lt_or_ge n xs.length with h | h
  · exact val_take_succ B xs n h
  · rw [List.take_of_length_le (by omega),List.take_of_length_le h,getD_ge xs n h]; simp
theorem val_snoc (B:Nat) (xs:List Nat) (x:Nat):val B (xs++[x])=val B xs+B ^ xs.length*x:=by
  rw [val_append]; simp [val]
theorem lim_snoc {B:Nat} {xs:List Nat} (h:Lim B xs) {x:Nat} (hx:x<B):Lim B (xs++[x]):=by
  intro j
  simp only [List.getD_eq_getElem?_getD,List.getElem?_append]
  split
  · have:=h j; rwa [List.getD_eq_getElem?_getD] at this
  · rcases Nat.eq_zero_or_pos (j - xs.length) with h0 | h0
    · rw [h0]; exact hx
    · rw [List.getElem?_eq_none (by simp; omega)]; exact Nat.lt_of_le_of_lt (Nat.zero_le _) hx
structure SubT (as bs os:List Nat) (k c:Nat):Prop where
  len:os.length=k
  lim:Lim B16 os
  cle:c≤1
  eq:val B16 (as.take k)+B16 ^ k*c=val B16 os+val B16 (bs.take k)
theorem subT_zero (as bs:List Nat):SubT as bs [] 0 0:=⟨rfl,lim_nil (by unfold B16; omega),by omega,by simp [val]⟩
def shS (x y c:Nat):Nat:=(x+65536 - y - c) % 65536
def shC (x y c:Nat):Nat:=1 - (x+65536 - y - c) / 65536
theorem subT_step {as bs os:List Nat} {k c:Nat} (h:SubT as bs os k c) (la:Lim B16 as) (lb:Lim B16 bs) :
    SubT as bs (os++[shS (as.getD k 0) (bs.getD k 0) c]) (k+1) (shC (as.getD k 0) (bs.getD k 0) c):=by
  have h1:=la k
  have h2:=lb k
  have h3:=h.cle
  generalize hx:as.getD k 0=x at *
  generalize hy:bs.getD k 0=y at *
  have e:x+B16*shC x y c=shS x y c+y+c:=by
    unfold shC shS
    unfold B16 at *
    omega
  refine ⟨by rw [List.length_append,h.len]; rfl,lim_snoc h.lim (by unfold shS B16; omega),by unfold shC; omega, ?_⟩
  rw [val_take_succ' B16 as k,val_take_succ' B16 bs k,hx,hy,val_snoc,h.len,Nat.pow_succ,Nat.mul_assoc]
  have e4:=h.eq
  have e5:B16 ^ k*x+B16 ^ k*(B16*shC x y c)=B16 ^ k*(shS x y c)+B16 ^ k*y+B16 ^ k*c:=by
    rw [← Nat.mul_add,e,Nat.mul_add,Nat.mul_add]
  omega
theorem length_le_of_val {B:Nat} (hB:1<B) {xs ys:List Nat} (hx:Lim B xs) (ty:Top ys) (h:val B ys≤val B xs):ys.length≤xs.length:=by
  rcases Nat.lt_or_ge xs.length ys.length with h1 | h1
  · have:=val_lt_of_length hB hx ty h1; omega
  · exact h1
theorem subT_end {as bs os:List Nat} {c:Nat} (h:SubT as bs os as.length c) (la:Lim B16 as) (tb:Top bs) (hle:val B16 bs≤val B16 as):val B16 os=val B16 as - val B16 bs:=by
  have h1:=length_le_of_val B16_pos la tb hle
  have e:=h.eq
  rw [List.take_length,List.take_of_length_le h1] at e
  have h2:=val_lt h.lim
  rw [h.len] at h2
  have h3:=h.cle
  have:c=0∨c=1:=by omega
  rcases this with rfl | rfl
  · omega
  · rw [Nat.mul_one] at e; omega
structure SumT (as bs os:List Nat) (k c:Nat):Prop where
  len:os.length=k
  lim:Lim B16 os
  cle:c≤1
  eq:val B16 os+B16 ^ k*c=val B16 (as.take k)+val B16 (bs.take k)
theorem sumT_zero (as bs:List Nat):SumT as bs [] 0 0:=⟨rfl,lim_nil (by unfold B16; omega),by omega,by simp [val]⟩
def ahS (x y c:Nat):Nat:=(x+y+c) % 65536
def ahC (x y c:Nat):Nat:=(x+y+c) / 65536
theorem sumT_step {as bs os:List Nat} {k c:Nat} (h:SumT as bs os k c) (la:Lim B16 as) (lb:Lim B16 bs) :
    SumT as bs (os++[ahS (as.getD k 0) (bs.getD k 0) c]) (k+1) (ahC (as.getD k 0) (bs.getD k 0) c):=by
  have h1:=la k
  have h2:=lb k
  have h3:=h.cle
  generalize hx:as.getD k 0=x at *
  generalize hy:bs.getD k 0=y at *
  have e:ahS x y c+B16*ahC x y c=x+y+c:=by
    unfold ahC ahS
    unfold B16 at *
    omega
  refine ⟨by rw [List.length_append,h.len]; rfl,lim_snoc h.lim (by unfold ahS B16; omega),by unfold ahC; unfold B16 at *; omega, ?_⟩
  rw [val_take_succ' B16 as k,val_take_succ' B16 bs k,hx,hy,val_snoc,h.len,Nat.pow_succ,Nat.mul_assoc]
  have e4:=h.eq
  have e5:B16 ^ k*ahS x y c+B16 ^ k*(B16*ahC x y c)=B16 ^ k*x+B16 ^ k*y+B16 ^ k*c:=by
    rw [← Nat.mul_add,e,Nat.mul_add,Nat.mul_add]
  omega
theorem sumT_end {as bs os:List Nat} {k:Nat} (h:SumT as bs os k 0) (ha:as.length≤k) (hb:bs.length≤k):val B16 os=val B16 as+val B16 bs:=by
  have e:=h.eq
  rw [List.take_of_length_le ha,List.take_of_length_le hb] at e
  omega
structure TakeT (R R' b:List Nat) (k c:Nat):Prop where
  len:R'.length=R.length
  rest:∀ j,k≤j→R'.getD j 0=R.getD j 0
  lim:Lim B64 R'
  cle:c≤1
  eq:val B64 (R.take k)+B64 ^ k*c=val B64 (R'.take k)+val B64 (b.take k)
theorem takeT_zero {R:List Nat} (b:List Nat) (h:Lim B64 R):TakeT R R b 0 0:=⟨rfl,fun _ _=>rfl,h,by omega,by simp [val]⟩
theorem takeT_step {R R' b:List Nat} {k c:Nat} (h:TakeT R R' b k c) (lb:Lim B64 b) (hk:k<R.length) :
    TakeT R (R'.set k (sLo (R'.getD k 0) (b.getD k 0) c)) b (k+1) (sHi (R'.getD k 0) (b.getD k 0) c):=by
  have hl:=h.len
  have h1:=h.lim k
  have h2:=lb k
  have h3:=h.cle
  have e0:=h.rest k (Nat.le_refl _)
  refine ⟨by rw [List.length_set,hl],fun j hj=>by rw [getD_set' _ _ _ _ (by omega),if_neg (by omega)]; exact h.rest j (by omega),lim_set h.lim (sLo_lt _ _ _) _,sHi_le _ _ _, ?_⟩
  rw [val_take_succ B64 R k hk,val_take_succ' B64 b k,val_take_succ B64 _ k (by rw [List.length_set]; omega),getD_set' _ _ _ _ (by omega),if_pos rfl,← e0]
  have e1:(R'.set k (sLo (R'.getD k 0) (b.getD k 0) c)).take k=R'.take k :=
    take_congr (by rw [List.length_set]; omega) (by omega) (fun j hj=>by rw [getD_set' _ _ _ _ (by omega),if_neg (by omega)])
  rw [e1]
  have e:=s_eq (x:=R'.getD k 0) (y:=b.getD k 0) (b:=c) h1 h2 h3
  generalize R'.getD k 0=x at *
  generalize b.getD k 0=y at *
  rw [Nat.pow_succ,Nat.mul_assoc]
  have e4:=h.eq
  have e5:B64 ^ k*x+B64 ^ k*(B64*sHi x y c)=B64 ^ k*(sLo x y c)+B64 ^ k*y+B64 ^ k*c:=by
    rw [← Nat.mul_add,← e,Nat.mul_add,Nat.mul_add]
  omega
theorem takeT_more {R R' b:List Nat} {k:Nat} (h:TakeT R R' b k 0) (hb:b.length≤k) (_hk:k≤R.length):∀ n,k+n≤R.length→TakeT R R' b (k+n) 0:=by
  intro n hn
  induction n with
  | zero=>exact h
  | succ n ih =>
    have h1:=ih (by omega)
    refine ⟨h.len,fun j hj=>h1.rest j (by omega),h.lim,by omega, ?_⟩
    have e:=h1.eq
    rw [show k+(n+1)=k+n+1 from rfl,val_take_succ' B64 R,val_take_succ' B64 b,val_take_succ' B64 R',h1.rest (k+n) (Nat.le_refl _),getD_ge b (k+n) (by omega)]
    omega
theorem takeT_end {R R' b:List Nat} {c:Nat} (h:TakeT R R' b R.length c) (_lR:Lim B64 R) (hb:b.length≤R.length) (hle:val B64 b≤val B64 R):c=0∧val B64 R'=val B64 R - val B64 b:=by
  have e:=h.eq
  rw [List.take_length,List.take_of_length_le hb,← h.len,List.take_length] at e
  have h2:=val_lt h.lim
  have h3:=h.cle
  have:c=0∨c=1:=by omega
  rcases this with rfl | rfl
  · exact ⟨rfl,by omega⟩
  · rw [Nat.mul_one] at e; omega
end Go.Proofs.YtacbkpenohcgjaaGreat.Mth
namespace Go.Proofs.YtacbkpenohcgjaaGreat.Mth
def sumL:List (List Nat)→Nat
  | []=>0
  | x :: r=>val B64 x+sumL r
theorem sumL_append (xs ys:List (List Nat)):sumL (xs++ys)=sumL xs+sumL ys:=by
  induction xs with
  | nil=>simp [sumL]
  | cons x r ih=>simp only [List.cons_append,sumL,ih,Nat.add_assoc]
theorem sumL_take_succ {xss:List (List Nat)} {n:Nat} (h:n<xss.length):sumL (xss.take (n+1))=sumL (xss.take n)+val B64 (xss.getD n []):=by
  rw [List.take_succ_eq_append_getElem h,sumL_append]
  simp [sumL,List.getD_eq_getElem?_getD,h]
theorem sumL_le {xss:List (List Nat)} {b:Nat} (n:Nat) (hn:n≤xss.length) (h:∀ j,j<n→val B64 (xss.getD j [])≤b):sumL (xss.take n)≤n*b:=by
  induction n with
  | zero=>simp [sumL]
  | succ n ih =>
    rw [sumL_take_succ (by omega),Nat.add_mul,Nat.one_mul]
    have h1:=ih (by omega) (fun j hj=>h j (by omega))
    have h2:=h n (by omega)
    omega
theorem long_of {xss:List (List Nat)} {j n:Nat} (hj:j<xss.length) (h:Big≤val B64 (xss.getD j [])) (hn:xss.length=n):longB xss n=true:=by
  subst hn
  rw [longB_iff]
  exact ⟨j,hj,h⟩
def addN (xss:List (List Nat)):Nat:=if longB xss xss.length=true then 0 else cutN (sumL xss)
def addE (xss:List (List Nat)):Int:=if longB xss xss.length=true then 5 else cutE (sumL xss)
theorem add_long {xss:List (List Nat)} (h:longB xss xss.length=true):addN xss=0∧addE xss=5:=⟨if_pos h,if_pos h⟩
theorem add_fine {xss:List (List Nat)} (h:longB xss xss.length=false):addN xss=cutN (sumL xss)∧addE xss=cutE (sumL xss):=by
  have h':¬ longB xss xss.length=true:=by rw [h]; exact Bool.false_ne_true
  exact ⟨if_neg h',if_neg h'⟩
structure PutT (R R':List Nat) (off:Nat) (b:List Nat) (k c:Nat):Prop where
  len:R'.length=R.length
  rest:∀ j,j<off∨off+k≤j→R'.getD j 0=R.getD j 0
  lim:Lim B64 R'
  cle:c≤1
  eq:seg R' off k+B64 ^ k*c=seg R off k+val B64 (b.take k)
theorem putT_zero {R:List Nat} (off:Nat) (b:List Nat) (h:Lim B64 R):PutT R R off b 0 0:=⟨rfl,fun _ _=>rfl,h,by omega,by simp [seg_zero,val]⟩
theorem putT_step {R R':List Nat} {off:Nat} {b:List Nat} {k c:Nat} (h:PutT R R' off b k c) (lb:Lim B64 b) (hk:off+k<R.length) :
    PutT R (R'.set (off+k) (aLo (R'.getD (off+k) 0) (b.getD k 0) c)) off b (k+1) (aHi (R'.getD (off+k) 0) (b.getD k 0) c):=by
  have hl:=h.len
  have h1:=h.lim (off+k)
  have h2:=lb k
  have h3:=h.cle
  have e0:=h.rest (off+k) (by omega)
  refine ⟨by rw [List.length_set,hl],fun j hj=>by rw [getD_set' _ _ _ _ (by omega),if_neg (by omega)]; exact h.rest j (by omega),lim_set h.lim (aLo_lt _ _ _) _,aHi_le h1 h2 h3, ?_⟩
  rw [seg_succ _ _ _ (by rw [List.length_set]; omega),seg_succ R off k hk,val_take_succ' B64 b k,getD_set' _ _ _ _ (by omega),if_pos rfl,← e0]
  have e1:seg (R'.set (off+k) (aLo (R'.getD (off+k) 0) (b.getD k 0) c)) off k=seg R' off k :=
    seg_congr (by rw [List.length_set]) (fun j h1 h2=>by rw [getD_set' _ _ _ _ (by omega),if_neg (by omega)]) (by rw [List.length_set]; omega)
  rw [e1]
  have e:=a_eq (R'.getD (off+k) 0) (b.getD k 0) c
  generalize R'.getD (off+k) 0=x at *
  generalize b.getD k 0=y at *
  rw [Nat.pow_succ,Nat.mul_assoc]
  have e4:=h.eq
  have e5:B64 ^ k*aLo x y c+B64 ^ k*(B64*aHi x y c)=B64 ^ k*x+B64 ^ k*y+B64 ^ k*c:=by
    rw [← Nat.mul_add,e,Nat.mul_add,Nat.mul_add]
  omega
theorem putT_more {R R':List Nat} {off:Nat} {b:List Nat} {k:Nat} (h:PutT R R' off b k 0) (hb:b.length≤k):∀ n,off+(k+n)≤R.length→PutT R R' off b (k+n) 0:=by
  intro n hn
  induction n with
  | zero=>exact h
  | succ n ih =>
    have h1:=ih (by omega)
    refine ⟨h.len,fun j hj=>h.rest j (by omega),h.lim,by omega, ?_⟩
    have e:=h1.eq
    have hl:=h.len
    rw [show k+(n+1)=k+n+1 from rfl,seg_succ R' _ _ (by omega),seg_succ R _ _ (by omega),val_take_succ' B64 b,h1.rest (off+(k+n)) (by omega),getD_ge b (k+n) (by omega)]
    omega
end Go.Proofs.YtacbkpenohcgjaaGreat.Mth
namespace Go.Proofs.YtacbkpenohcgjaaGreat.Mth
theorem val_set (B:Nat):∀ (xs:List Nat) (n:Nat),n<xs.length→∀ x,val B (xs.set n x)+B ^ n*xs.getD n 0=val B xs+B ^ n*x
  | [],n,h,x=>by simp at h
  | y :: r,0,h,x=>by simp only [List.set_cons_zero,val,Nat.pow_zero,Nat.one_mul,List.getD_cons_zero]; omega
  | y :: r,n+1,h,x=>by
    have ih:=val_set B r n (by simpa using h) x
    have e:B*(val B (r.set n x)+B ^ n*r.getD n 0)=B*(val B r+B ^ n*x):=by rw [ih]
    rw [Nat.mul_add,Nat.mul_add,← Nat.mul_assoc,← Nat.mul_assoc] at e
    simp only [List.set_cons_succ,val,List.getD_cons_succ]
    rw [Nat.pow_succ,Nat.mul_comm (B ^ n) B]
    omega
def mhS (o x y c:Nat):Nat:=(o+x*y+c) % 65536
def mhC (o x y c:Nat):Nat:=(o+x*y+c) / 65536
theorem mh_le {o x y c:Nat} (ho:o<B16) (hx:x<B16) (hy:y<B16) (hc:c<B16):o+x*y+c≤4294967295:=by
  unfold B16 at *
  have:x*y≤65535*65535:=Nat.mul_le_mul (by omega) (by omega)
  omega
structure RowT (R R' ys:List Nat) (x i j c:Nat):Prop where
  len:R'.length=R.length
  lim:Lim B16 R'
  clt:c<B16
  eq:val B16 R'+B16 ^ (i+j)*c=val B16 R+B16 ^ i*(x*val B16 (ys.take j))
theorem rowT_zero {R:List Nat} (ys:List Nat) (x i:Nat) (h:Lim B16 R):RowT R R ys x i 0 0:=⟨rfl,h,by unfold B16; omega,by simp [val]⟩
theorem rowT_step {R R' ys:List Nat} {x i j c:Nat} (h:RowT R R' ys x i j c) (hx:x<B16) (ly:Lim B16 ys) (hij:i+j<R.length) :
    RowT R (R'.set (i+j) (mhS (R'.getD (i+j) 0) x (ys.getD j 0) c)) ys x i (j+1) (mhC (R'.getD (i+j) 0) x (ys.getD j 0) c):=by
  have ho:=h.lim (i+j)
  have hy:=ly j
  have hc:=h.clt
  have hl:=h.len
  have hle:=mh_le ho hx hy hc
  refine ⟨by rw [List.length_set,hl],lim_set h.lim (by unfold mhS B16; omega) _,by unfold mhC B16; omega, ?_⟩
  have e1:=val_set B16 R' (i+j) (by omega) (mhS (R'.getD (i+j) 0) x (ys.getD j 0) c)
  have e2:=val_take_succ' B16 ys j
  have e3:=h.eq
  rw [e2]
  generalize R'.getD (i+j) 0=o at *
  generalize ys.getD j 0=y at *
  have e4:mhS o x y c+B16*mhC o x y c=o+x*y+c:=by unfold mhS mhC B16; omega
  have e5:B16 ^ (i+j)*mhS o x y c+B16 ^ (i+j)*(B16*mhC o x y c)=B16 ^ (i+j)*o+B16 ^ (i+j)*(x*y)+B16 ^ (i+j)*c:=by
    rw [← Nat.mul_add,e4,Nat.mul_add,Nat.mul_add]
  have e6:B16 ^ (i+(j+1))*mhC o x y c=B16 ^ (i+j)*(B16*mhC o x y c):=by
    rw [← Nat.add_assoc,Nat.pow_succ,Nat.mul_assoc]
  have e7:B16 ^ i*(x*(val B16 (ys.take j)+B16 ^ j*y))=B16 ^ i*(x*val B16 (ys.take j))+B16 ^ (i+j)*(x*y):=by
    rw [Nat.mul_add,Nat.mul_add,Nat.pow_add]
    congr 1
    rw [Nat.mul_left_comm x,Nat.mul_assoc]
  rw [e6,e7]
  omega
structure ProdT (R xs ys:List Nat) (i:Nat):Prop where
  len:R.length=xs.length+ys.length
  lim:Lim B16 R
  eq:val B16 R=val B16 (xs.take i)*val B16 ys
theorem prodT_zero (xs ys:List Nat):ProdT (List.replicate (xs.length+ys.length) 0) xs ys 0 :=
  ⟨by simp,fun j=>by rw [getD_replicate]; unfold B16; omega,by rw [val_zero (fun j=>getD_replicate _ _)]; simp [val]⟩
theorem prodT_end {R xs ys:List Nat} (h:ProdT R xs ys xs.length):val B16 R=val B16 xs*val B16 ys:=by
  have:=h.eq
  rwa [List.take_length] at this
end Go.Proofs.YtacbkpenohcgjaaGreat.Mth
namespace Go.Proofs.YtacbkpenohcgjaaGreat.Mth
def md (u b:Nat):Nat:=u % b
end Go.Proofs.YtacbkpenohcgjaaGreat.Mth
namespace Go.Proofs.YtacbkpenohcgjaaGreat.Mth
def bl (n:Nat):Nat:=if n=0 then 0 else Nat.log2 n+1
theorem bl_zero:bl 0=0:=rfl
theorem bl_uniq {n m:Nat} (h1:2 ^ m≤n) (h2:n<2 ^ (m+1)):bl n=m+1:=by
  have hn:n≠0:=by have:=Nat.two_pow_pos m; omega
  unfold bl
  rw [if_neg hn]
  congr 1
  have a1:=Nat.log2_self_le hn
  have a2:n<2 ^ (n.log2+1):=Nat.lt_log2_self
  have b1:m<n.log2+1:=(Nat.pow_lt_pow_iff_right (by omega:1<2)).1 (Nat.lt_of_le_of_lt h1 a2)
  have b2:n.log2<m+1:=(Nat.pow_lt_pow_iff_right (by omega:1<2)).1 (Nat.lt_of_le_of_lt a1 h2)
  omega
theorem bl_spec {n:Nat} (h:n≠0):∃ m,bl n=m+1∧2 ^ m≤n∧n<2 ^ (m+1) :=
  ⟨n.log2,if_neg h,Nat.log2_self_le h,Nat.lt_log2_self⟩
theorem bl_le {n k:Nat} (h:n<2 ^ k):bl n≤k:=by
  by_cases h0:n=0
  · subst h0; simp [bl]
  · obtain ⟨m,e,h1,h2⟩:=bl_spec h0
    rw [e]
    have:m<k:=(Nat.pow_lt_pow_iff_right (by omega:1<2)).1 (Nat.lt_of_le_of_lt h1 h)
    omega
theorem bl_lib {x:Nat} (h:x<B64):Lib.bitLen x=bl x:=by
  by_cases h0:x=0
  · subst h0; rfl
  · have h64:x<2 ^ 64:=h
    obtain ⟨h1,h2,h3⟩:=Lib.bitLenAux_bounds 64 x h64 h0
    have e:Lib.bitLen x=Lib.bitLenAux 64 x:=rfl
    rw [e]
    have:=bl_uniq (n:=x) (m:=Lib.bitLenAux 64 x - 1) h2 (by rw [Nat.sub_add_cancel h1]; exact h3)
    omega
theorem bl_top {s:Nat} {xs:List Nat} (hl:Lim (2 ^ s) xs) (ht:Top xs) (hp:0<xs.length):bl (val (2 ^ s) xs)=(xs.length - 1)*s+bl (xs.getD (xs.length - 1) 0):=by
  have htop:=tlen_top xs (by rw [ht]; exact hp)
  rw [ht] at htop
  obtain ⟨m,e,h1,h2⟩:=bl_spec htop
  rw [e]
  have hs:=val_split (2 ^ s) xs (xs.length - 1) (by omega)
  have hd:=val_drop (2 ^ s) xs (xs.length - 1) (by omega)
  have hz:val (2 ^ s) (xs.drop (xs.length - 1+1))=0:=by
    rw [List.drop_of_length_le (by omega)]; rfl
  rw [hz,Nat.mul_zero,Nat.add_zero] at hd
  rw [hd] at hs
  have hlow:=val_take_lt (Nat.two_pow_pos s) hl (xs.length - 1) (by omega)
  have hpow:(2 ^ s) ^ (xs.length - 1)=2 ^ ((xs.length - 1)*s):=by rw [← Nat.pow_mul,Nat.mul_comm]
  rw [hpow] at hs hlow
  generalize xs.getD (xs.length - 1) 0=x at *
  rw [show (xs.length - 1)*s+(m+1)=(xs.length - 1)*s+m+1 by omega]
  refine bl_uniq ?_ ?_
  · rw [hs,Nat.pow_add]
    have:=Nat.mul_le_mul_left (2 ^ ((xs.length - 1)*s)) h1
    omega
  · rw [hs,Nat.add_assoc,Nat.pow_add]
    have:=Nat.mul_le_mul_left (2 ^ ((xs.length - 1)*s)) (show x+1≤2 ^ (m+1) from h2)
    rw [Nat.mul_add,Nat.mul_one] at this
    omega
def bitN (n i:Nat):Bool:=decide (n / 2 ^ i % 2=1)
theorem bit_limb {xs:List Nat} (hl:Lim B64 xs) {q r:Nat} (hr:r<64) (hq:q<xs.length):bitN (val B64 xs) (64*q+r)=decide (xs.getD q 0 / 2 ^ r % 2=1):=by
  unfold bitN
  have hs:=val_split B64 xs q (by omega)
  have hd:=val_drop B64 xs q hq
  have hlow:=val_take_lt (by have:=B64_pos; omega) hl q (by omega)
  have hpow:2 ^ (64*q+r)=B64 ^ q*2 ^ r:=by rw [Nat.pow_add,Nat.pow_mul]; rfl
  rw [hpow,← Nat.div_div_eq_div_mul,hs,Nat.add_mul_div_left _ _ (Nat.lt_of_le_of_lt (Nat.zero_le _) hlow),Nat.div_eq_of_lt hlow,Nat.zero_add,hd]
  have h64:B64=2 ^ r*(2*2 ^ (63 - r)):=by
    rw [← Nat.mul_assoc,Nat.mul_comm (2 ^ r) 2,Nat.mul_assoc,← Nat.pow_add,show r+(63 - r)=63 by omega]; rfl
  rw [h64,Nat.mul_assoc,Nat.add_mul_div_left _ _ (Nat.two_pow_pos r),Nat.mul_assoc,Nat.add_mul_mod_self_left]
theorem bit_far {xs:List Nat} (hl:Lim B64 xs) {i:Nat} (h:64*xs.length≤i):bitN (val B64 xs) i=false:=by
  unfold bitN
  have h1:=val_lt hl
  have h2:B64 ^ xs.length≤2 ^ i:=by
    rw [show B64=2 ^ 64 from rfl,← Nat.pow_mul]
    exact Nat.pow_le_pow_right (by omega) h
  rw [Nat.div_eq_of_lt (by omega)]
  rfl
end Go.Proofs.YtacbkpenohcgjaaGreat.Mth
namespace Go.Proofs.YtacbkpenohcgjaaGreat.Mth
theorem b64_split {n m:Nat} (h:n+m=64):B64=2 ^ n*2 ^ m:=by
  rw [← Nat.pow_add,h]; rfl
def upLo (x n c:Nat):Nat:=x*2 ^ n % B64+c
def upHi (x n:Nat):Nat:=x*2 ^ n / B64
theorem up_eq (x n c:Nat):upLo x n c+B64*upHi x n=x*2 ^ n+c:=by
  have:=Nat.mod_add_div (x*2 ^ n) B64
  unfold upLo upHi; omega
theorem up_part {x n m:Nat} (h:n+m=64):x*2 ^ n % B64=2 ^ n*(x % 2 ^ m):=by
  rw [b64_split h,Nat.mul_comm x,Nat.mul_mod_mul_left]
theorem up_lt {x n m c:Nat} (h:n+m=64) (hc:c<2 ^ n):upLo x n c<B64:=by
  unfold upLo
  rw [up_part h,b64_split h]
  have h1:x % 2 ^ m<2 ^ m:=Nat.mod_lt _ (Nat.pow_pos (by omega))
  have h2:2 ^ n*(x % 2 ^ m+1)≤2 ^ n*2 ^ m:=Nat.mul_le_mul_left _ h1
  rw [Nat.mul_add,Nat.mul_one] at h2
  omega
theorem upHi_lt {x n:Nat} (hx:x<B64):upHi x n<2 ^ n:=by
  unfold upHi
  rw [Nat.div_lt_iff_lt_mul (by have:=B64_pos; omega),Nat.mul_comm]
  exact Nat.mul_lt_mul_of_pos_left hx (Nat.pow_pos (by omega))
theorem upHi_div {x n m:Nat} (h:n+m=64):upHi x n=x / 2 ^ m:=by
  unfold upHi
  rw [b64_split h,Nat.mul_comm x,Nat.mul_div_mul_left _ _ (Nat.pow_pos (by omega))]
theorem up_or {x n m c:Nat} (h:n+m=64) (hc:c<2 ^ n):x*2 ^ n % B64 ||| c=upLo x n c:=by
  unfold upLo
  rw [up_part h,← Nat.two_pow_add_eq_or_of_lt hc]
structure UpT (R R':List Nat) (off:Nat) (xs:List Nat) (n k c:Nat):Prop where
  len:R'.length=R.length
  rest:∀ j,j<off∨off+k≤j→R'.getD j 0=R.getD j 0
  lim:Lim B64 R'
  clt:c<2 ^ n
  eq:seg R' off k+B64 ^ k*c=2 ^ n*val B64 (xs.take k)
theorem upT_zero {R:List Nat} (off:Nat) (xs:List Nat) (n:Nat) (h:Lim B64 R):UpT R R off xs n 0 0:=⟨rfl,fun _ _=>rfl,h,Nat.pow_pos (by omega),by simp [seg_zero,val]⟩
theorem upT_step {R R':List Nat} {off:Nat} {xs:List Nat} {n m k c:Nat} (h:UpT R R' off xs n k c) (hnm:n+m=64) (lx:Lim B64 xs) (hk:off+k<R.length) :
    UpT R (R'.set (off+k) (upLo (xs.getD k 0) n c)) off xs n (k+1) (upHi (xs.getD k 0) n):=by
  have hl:=h.len
  refine ⟨by rw [List.length_set,hl],fun j hj=>by rw [getD_set' _ _ _ _ (by omega),if_neg (by omega)]; exact h.rest j (by omega),lim_set h.lim (up_lt hnm h.clt) _,upHi_lt (lx k), ?_⟩
  rw [seg_succ _ _ _ (by rw [List.length_set]; omega),val_take_succ' B64 xs k,getD_set' _ _ _ _ (by omega),if_pos rfl]
  have e1:seg (R'.set (off+k) (upLo (xs.getD k 0) n c)) off k=seg R' off k :=
    seg_congr (by rw [List.length_set]) (fun j h1 h2=>by rw [getD_set' _ _ _ _ (by omega),if_neg (by omega)]) (by rw [List.length_set]; omega)
  rw [e1]
  have e:=up_eq (xs.getD k 0) n c
  generalize xs.getD k 0=x at *
  have e4:=h.eq
  have e5:B64 ^ k*upLo x n c+B64 ^ k*(B64*upHi x n)=B64 ^ k*(x*2 ^ n)+B64 ^ k*c:=by
    rw [← Nat.mul_add,e,Nat.mul_add]
  rw [Nat.pow_succ,Nat.mul_assoc,Nat.mul_add]
  have e6:2 ^ n*(B64 ^ k*x)=B64 ^ k*(x*2 ^ n):=by
    rw [Nat.mul_comm x,Nat.mul_left_comm]
  omega
structure UpAll (R R':List Nat) (off:Nat) (xs:List Nat) (n:Nat):Prop where
  len:R'.length=R.length
  rest:∀ j,j<off∨off+xs.length+1≤j→R'.getD j 0=R.getD j 0
  lim:Lim B64 R'
  eq:seg R' off (xs.length+1)=2 ^ n*val B64 xs
theorem upT_end {R R':List Nat} {off:Nat} {xs:List Nat} {n c:Nat} (h:UpT R R' off xs n xs.length c) (hn:n≤63) (hk:off+xs.length<R.length):UpAll R (R'.set (off+xs.length) c) off xs n:=by
  have hl:=h.len
  have hc:c<B64:=Nat.lt_of_lt_of_le h.clt (by have:B64=2 ^ 64:=rfl; rw [this]; exact Nat.pow_le_pow_right (by omega) (by omega))
  refine ⟨by rw [List.length_set,hl],fun j hj=>by rw [getD_set' _ _ _ _ (by omega),if_neg (by omega)]; exact h.rest j (by omega),lim_set h.lim hc _, ?_⟩
  rw [seg_succ _ _ _ (by rw [List.length_set]; omega),getD_set' _ _ _ _ (by omega),if_pos rfl]
  have e1:seg (R'.set (off+xs.length) c) off xs.length=seg R' off xs.length :=
    seg_congr (by rw [List.length_set]) (fun j h1 h2=>by rw [getD_set' _ _ _ _ (by omega),if_neg (by omega)]) (by rw [List.length_set]; omega)
  have e:=h.eq
  rw [List.take_length] at e
  rw [e1]; exact e
theorem upAll_val {R' xs:List Nat} {off n:Nat} (h:UpAll (List.replicate (off+xs.length+1) 0) R' off xs n):val B64 R'=2 ^ (64*off+n)*val B64 xs:=by
  have hl:=h.len
  rw [List.length_replicate] at hl
  have e1:=seg_split R' off (xs.length+1) (by omega)
  have e2:seg R' 0 off=0:=by
    have:seg R' 0 off=seg (List.replicate (off+xs.length+1) 0) 0 off :=
      seg_congr (by rw [hl,List.length_replicate]) (fun j h1 h2=>h.rest j (by omega)) (by omega)
    rw [this]
    unfold seg
    refine val_zero fun j=>?_
    rw [getD_take]
    split
    · rw [getD_drop,getD_replicate]
    · rfl
  rw [show off+(xs.length+1)=R'.length by omega,seg_all,e2,h.eq] at e1
  rw [e1,Nat.zero_add,← Nat.mul_assoc]
  congr 1
  rw [Nat.pow_add,Nat.pow_mul]; rfl
def dnLo (x n c:Nat):Nat:=x / 2 ^ n+c
def dnHi (x m:Nat):Nat:=x*2 ^ m % B64
structure DnT (R R' xs:List Nat) (n k c:Nat):Prop where
  len:R'.length=R.length
  rest:∀ j,j<k∨xs.length≤j→R'.getD j 0=R.getD j 0
  lim:Lim B64 R'
  eq:val B64 (R'.take xs.length |>.drop k)=val B64 (xs.drop k) / 2 ^ n
  ceq:∀ m,n+m=64→c=2 ^ m*(val B64 (xs.drop k) % 2 ^ n)
theorem dnT_zero {R:List Nat} (xs:List Nat) (n:Nat) (h:Lim B64 R) (hx:xs.length≤R.length):DnT R R xs n xs.length 0:=by
  refine ⟨rfl,fun _ _=>rfl,h, ?_,fun m _=>?_⟩
  · rw [List.drop_of_length_le (by rw [List.length_take]; omega),List.drop_of_length_le (Nat.le_refl _)]; simp [val]
  · rw [List.drop_of_length_le (Nat.le_refl _)]; simp [val]
theorem dnHi_eq {x n m:Nat} (h:n+m=64):dnHi x m=2 ^ m*(x % 2 ^ n):=by
  unfold dnHi
  rw [up_part (n:=m) (m:=n) (by omega)]
theorem dn_parts {x V n m:Nat} (h:n+m=64):(x+B64*V) / 2 ^ n=(x / 2 ^ n+2 ^ m*(V % 2 ^ n))+B64*(V / 2 ^ n)∧(x+B64*V) % 2 ^ n=x % 2 ^ n:=by
  have hp:0<2 ^ n:=Nat.pow_pos (by omega)
  have e1:B64*V=2 ^ n*(2 ^ m*V):=by rw [b64_split h,Nat.mul_assoc]
  have e2:2 ^ m*V=2 ^ m*(V % 2 ^ n)+B64*(V / 2 ^ n):=by
    have:=Nat.mod_add_div V (2 ^ n)
    conv=>lhs; rw [← this]
    rw [Nat.mul_add,b64_split h,Nat.mul_comm (2 ^ n) (2 ^ m),Nat.mul_assoc]
  constructor
  · rw [e1,Nat.add_mul_div_left _ _ hp,e2]; omega
  · rw [e1,Nat.add_mul_mod_self_left]
theorem dn_lt {x V n m:Nat} (h:n+m=64) (hx:x<B64):dnLo x n (2 ^ m*(V % 2 ^ n))<B64:=by
  unfold dnLo
  have hp:0<2 ^ n:=Nat.pow_pos (by omega)
  have h1:x / 2 ^ n<2 ^ m:=by
    rw [Nat.div_lt_iff_lt_mul hp,Nat.mul_comm,← b64_split h]; exact hx
  have h2:V % 2 ^ n<2 ^ n:=Nat.mod_lt _ hp
  have h3:2 ^ m*(V % 2 ^ n+1)≤2 ^ m*2 ^ n:=Nat.mul_le_mul_left _ h2
  rw [Nat.mul_add,Nat.mul_one,Nat.mul_comm (2 ^ m) (2 ^ n),← b64_split h] at h3
  omega
theorem dn_or {x V n m:Nat} (h:n+m=64) (hx:x<B64):x / 2 ^ n ||| 2 ^ m*(V % 2 ^ n)=dnLo x n (2 ^ m*(V % 2 ^ n)):=by
  have hp:0<2 ^ n:=Nat.pow_pos (by omega)
  have h1:x / 2 ^ n<2 ^ m:=by
    rw [Nat.div_lt_iff_lt_mul hp,Nat.mul_comm,← b64_split h]; exact hx
  unfold dnLo
  rw [Nat.or_comm,← Nat.two_pow_add_eq_or_of_lt h1]
  omega
theorem dnT_step {R R' xs:List Nat} {n m k c:Nat} (h:DnT R R' xs n (k+1) c) (hnm:n+m=64) (lx:Lim B64 xs) (hk:k<xs.length) (hR:xs.length≤R.length) :
    DnT R (R'.set k (dnLo (xs.getD k 0) n c)) xs n k (dnHi (xs.getD k 0) m):=by
  have hl:=h.len
  have hc:=h.ceq m hnm
  have hd:=val_drop B64 xs k hk
  have hp:=dn_parts (x:=xs.getD k 0) (V:=val B64 (xs.drop (k+1))) hnm
  have hlt:=dn_lt (x:=xs.getD k 0) (V:=val B64 (xs.drop (k+1))) hnm (lx k)
  rw [← hc] at hlt
  refine ⟨by rw [List.length_set,hl],fun j hj=>by rw [getD_set' _ _ _ _ (by omega),if_neg (by omega)]; exact h.rest j (by omega),lim_set h.lim hlt _, ?_,fun m' hm'=>?_⟩
  · rw [hd,hp.1,← hc]
    have e1:k<((R'.set k (dnLo (xs.getD k 0) n c)).take xs.length).length:=by rw [List.length_take,List.length_set]; omega
    rw [val_drop B64 _ k e1]
    have e2:((R'.set k (dnLo (xs.getD k 0) n c)).take xs.length).getD k 0=dnLo (xs.getD k 0) n c:=by
      rw [getD_take,if_pos hk,getD_set' _ _ _ _ (by omega),if_pos rfl]
    have e3:((R'.set k (dnLo (xs.getD k 0) n c)).take xs.length).drop (k+1)=(R'.take xs.length).drop (k+1):=by
      apply list_congr
      · simp
      · intro j hj
        simp only [List.length_drop,List.length_take,List.length_set] at hj
        rw [getD_drop,getD_drop,getD_take,getD_take]
        split
        · rw [getD_set' _ _ _ _ (by omega),if_neg (by omega)]
        · rfl
    rw [e2,e3,h.eq]
    rfl
  · obtain rfl:m'=m:=by omega
    rw [hd,hp.2]
    exact dnHi_eq hnm
theorem dnT_end {R R' xs:List Nat} {n c:Nat} (h:DnT R R' xs n 0 c):val B64 (R'.take xs.length)=val B64 xs / 2 ^ n:=by
  have:=h.eq
  simpa using this
end Go.Proofs.YtacbkpenohcgjaaGreat.Mth
namespace Go.Proofs.YtacbkpenohcgjaaGreat.Mth
def hT (W u v:Nat):Nat:=u*W+v
def hY (W y1 y0:Nat):Nat:=y1*W+y0
structure HalfG (W u v y1 y0 q r:Nat):Prop where
  ge:hT W u v / hY W y1 y0≤q
  eq:r+q*y1=u
  le:q≤W+1
structure GoodY (W y1 y0:Nat):Prop where
  lo:y0<W
  hi:W≤2*y1
  pos:0<y1
  w:0<W
theorem GoodY.posY {W y1 y0:Nat} (h:GoodY W y1 y0):0<hY W y1 y0:=by
  have h1:=Nat.mul_pos h.pos h.w
  unfold hY; omega
theorem half_start {W u v y1 y0:Nat} (hu:u<hY W y1 y0) (hv:v<W) (g:GoodY W y1 y0):HalfG W u v y1 y0 (u / y1) (u % y1):=by
  have hp:=g.posY
  have h0:=g.lo
  have h1:=g.hi
  have e:=Nat.mod_add_div u y1
  have hr:u % y1<y1:=Nat.mod_lt _ g.pos
  generalize u / y1=q at *
  generalize u % y1=r at *
  rw [Nat.mul_comm] at e
  refine ⟨?_,e, ?_⟩
  · refine Nat.le_of_lt_succ ((Nat.div_lt_iff_lt_mul hp).2 ?_)
    unfold hT hY
    have h8:u+1≤q*y1+y1:=by omega
    have h9:(u+1)*W≤(q*y1+y1)*W:=Nat.mul_le_mul_right _ h8
    have h7:q.succ*(y1*W+y0)=(q*y1+y1)*W+q.succ*y0:=by
      rw [Nat.mul_add,← Nat.mul_assoc,Nat.succ_mul]
    rw [h7]
    rw [Nat.add_mul,Nat.one_mul] at h9
    omega
  · have h9:u<y1*W+2*y1:=by unfold hY at hu; omega
    have h8:q*y1<(W+2)*y1:=by rw [Nat.add_mul,Nat.mul_comm W]; omega
    have:=Nat.lt_of_mul_lt_mul_right h8
    omega
theorem half_cmp {W u v y1 y0 q r:Nat} (h:HalfG W u v y1 y0 q r):q*hY W y1 y0+r*W+v=hT W u v+q*y0:=by
  have e:=h.eq
  unfold hY hT
  rw [← e,Nat.add_mul,Nat.mul_add,Nat.mul_assoc]
  omega
theorem half_stop {W u v y1 y0 q r:Nat} (h:HalfG W u v y1 y0 q r) (g:GoodY W y1 y0) (hs:q*y0≤r*W+v):q=hT W u v / hY W y1 y0:=by
  have e:=half_cmp h
  have h2:q*hY W y1 y0≤hT W u v:=by omega
  have h3:q≤hT W u v / hY W y1 y0:=(Nat.le_div_iff_mul_le g.posY).2 h2
  have:=h.ge
  omega
theorem half_break {W u v y1 y0 q r:Nat} (h:HalfG W u v y1 y0 q r) (g:GoodY W y1 y0) (hq:q≤W) (hr:W≤r):q=hT W u v / hY W y1 y0:=by
  refine half_stop h g ?_
  have h0:=g.lo
  have h2:q*y0≤W*W:=Nat.mul_le_mul hq (by omega)
  have h3:W*W≤r*W:=Nat.mul_le_mul_right _ hr
  omega
theorem half_lt {W u v y1 y0:Nat} (hu:u<hY W y1 y0) (hv:v<W):hT W u v / hY W y1 y0<W:=by
  rw [Nat.div_lt_iff_lt_mul (by omega)]
  unfold hT
  have:(u+1)*W≤hY W y1 y0*W:=Nat.mul_le_mul_right _ hu
  rw [Nat.add_mul,Nat.one_mul] at this
  rw [Nat.mul_comm W]
  omega
theorem half_more {W u v y1 y0 q r:Nat} (h:HalfG W u v y1 y0 q r) (hlt:hT W u v / hY W y1 y0<W) (g:GoodY W y1 y0) (ht:W≤q∨r*W+v<q*y0):1≤q∧HalfG W u v y1 y0 (q - 1) (r+y1):=by
  have hge:=h.ge
  have e:=h.eq
  have hq:hT W u v / hY W y1 y0<q:=by
    rcases ht with ht | ht
    · omega
    · have e2:=half_cmp h
      rcases Nat.lt_or_ge (hT W u v / hY W y1 y0) q with h3 | h3
      · exact h3
      · exfalso
        have:=(Nat.le_div_iff_mul_le g.posY).1 h3
        omega
  have hq1:1≤q:=Nat.lt_of_le_of_lt (Nat.zero_le _) hq
  refine ⟨hq1,⟨Nat.le_sub_one_of_lt hq, ?_,by have:=h.le; omega⟩⟩
  obtain ⟨m,rfl⟩:∃ m,q=m+1:=⟨q - 1,(Nat.sub_add_cancel hq1).symm⟩
  rw [Nat.add_mul,Nat.one_mul] at e
  simp only [Nat.add_sub_cancel]
  omega
theorem half_rest {W u v y1 y0:Nat}:hT W u v % hY W y1 y0+hT W u v / hY W y1 y0*hY W y1 y0=hT W u v:=by
  have:=Nat.mod_add_div (hT W u v) (hY W y1 y0)
  rw [Nat.mul_comm] at this
  exact this
theorem halves_quo {W un32 v1 v0 Y:Nat} (hy:0<Y) {q1 r1 q0 r0:Nat} (e1:r1+q1*Y=hT W un32 v1) (e0:r0+q0*Y=hT W r1 v0) (hr:r0<Y) :
    (un32*(W*W)+(v1*W+v0)) / Y=q1*W+q0∧(un32*(W*W)+(v1*W+v0)) % Y=r0:=by
  have e:un32*(W*W)+(v1*W+v0)=r0+Y*(q1*W+q0):=by
    unfold hT at *
    have h2:(r1+q1*Y)*W=(un32*W+v1)*W:=by rw [e1]
    rw [Nat.add_mul,Nat.add_mul,Nat.mul_assoc un32] at h2
    have h3:Y*(q1*W+q0)=q1*Y*W+q0*Y:=by
      rw [Nat.mul_add,Nat.mul_comm Y q0,← Nat.mul_assoc,Nat.mul_comm Y q1]
    rw [h3]
    generalize q1*Y*W=A at *
    generalize q0*Y=C at *
    generalize un32*(W*W)=D at *
    omega
  rw [e,Nat.add_mul_div_left _ _ hy,Nat.div_eq_of_lt hr,Nat.add_mul_mod_self_left,Nat.mod_eq_of_lt hr]
  exact ⟨by omega,rfl⟩
theorem div_shifted {N y s:Nat} (h1:0<2 ^ s):(N*2 ^ s) / (y*2 ^ s)=N / y∧(N*2 ^ s) % (y*2 ^ s) / 2 ^ s=N % y:=by
  rw [Nat.mul_div_mul_right _ _ h1,Nat.mul_mod_mul_right,Nat.mul_div_cancel _ h1]
  exact ⟨rfl,rfl⟩
theorem shifted_limbs {hi lo s m:Nat} (h:s+m=64):(hi*2 ^ s+lo / 2 ^ m)*B64+lo*2 ^ s % B64=(hi*B64+lo)*2 ^ s:=by
  have e1:=Nat.mod_add_div (lo*2 ^ s) B64
  have e2:lo*2 ^ s / B64=lo / 2 ^ m:=by
    rw [b64_split h,Nat.mul_comm lo,Nat.mul_div_mul_left _ _ (Nat.pow_pos (by omega))]
  rw [e2] at e1
  rw [Nat.add_mul,Nat.add_mul]
  have e3:hi*2 ^ s*B64=hi*B64*2 ^ s:=Nat.mul_right_comm _ _ _
  rw [e3,Nat.mul_comm (lo / 2 ^ m) B64]
  omega
def w32:Nat:=4294967296
theorem w32_sq:w32*w32=B64:=rfl
end Go.Proofs.YtacbkpenohcgjaaGreat.Mth
namespace Go.Proofs.YtacbkpenohcgjaaGreat.Mth
structure TkT (R R':List Nat) (off:Nat) (b:List Nat) (x k c:Nat):Prop where
  len:R'.length=R.length
  rest:∀ j,j<off∨off+k≤j→R'.getD j 0=R.getD j 0
  lim:Lim B64 R'
  clt:c<B64
  eq:seg R' off k+x*val B64 (b.take k)=seg R off k+B64 ^ k*c
theorem tkT_zero {R:List Nat} {off:Nat} {b:List Nat} {x:Nat} (h:Lim B64 R):TkT R R off b x 0 0 :=
  ⟨rfl,fun _ _=>rfl,h,by have:=B64_pos; omega,by simp [seg_zero,val]⟩
def borrowT (x y c s:Nat):Nat:=pHi x y c+sHi s (pLo x y c) 0
theorem borrow_eq {x y c s:Nat} (hs:s<B64):sLo s (pLo x y c) 0+x*y+c=s+B64*borrowT x y c s:=by
  have e1:=p_eq x y c
  have e2:=s_eq (x:=s) (y:=pLo x y c) (b:=0) hs (pLo_lt _ _ _) (by omega)
  unfold borrowT
  rw [Nat.mul_add]
  omega
theorem borrowT_lt {x y c s:Nat} (hx:x<B64) (hy:y<B64) (hc:c<B64) (hs:s<B64):borrowT x y c s<B64:=by
  have e:=borrow_eq (x:=x) (y:=y) (c:=c) hs
  have e2:=sLo_lt s (pLo x y c) 0
  have h2:x*y≤(B64 - 1)*(B64 - 1):=Nat.mul_le_mul (by omega) (by omega)
  have h3:(B64 - 1)*(B64 - 1)+2*(B64 - 1)<B64*B64:=by unfold B64; omega
  have h4:B64*borrowT x y c s<B64*B64:=by omega
  exact Nat.lt_of_mul_lt_mul_left h4
theorem tkT_step {R R':List Nat} {off:Nat} {b:List Nat} {x k c:Nat} (h:TkT R R' off b x k c) (hx:x<B64) (hb:Lim B64 b) (hk:k<b.length) (hoff:off+b.length≤R.length) :
    TkT R (R'.set (off+k) (sLo (R'.getD (off+k) 0) (pLo x (b.getD k 0) c) 0)) off b x (k+1) (borrowT x (b.getD k 0) c (R'.getD (off+k) 0)):=by
  have hl:=h.len
  refine ⟨by rw [List.length_set,hl], ?_,lim_set h.lim (sLo_lt _ _ _) _,borrowT_lt hx (hb k) h.clt (h.lim _), ?_⟩
  · intro j hj
    rw [getD_set' _ _ _ _ (by omega),if_neg (by omega)]
    exact h.rest j (by omega)
  · rw [seg_succ _ _ _ (by rw [List.length_set]; omega),getD_set' _ _ _ _ (by omega),if_pos rfl,seg_succ R off k (by omega),val_take_succ B64 b k hk]
    have e0:seg (R'.set (off+k) (sLo (R'.getD (off+k) 0) (pLo x (b.getD k 0) c) 0)) off k=seg R' off k :=
      seg_congr (by rw [List.length_set]) (fun j h1 h2=>by rw [getD_set' _ _ _ _ (by omega),if_neg (by omega)]) (by rw [List.length_set]; omega)
    rw [e0]
    have e1:=borrow_eq (x:=x) (y:=b.getD k 0) (c:=c) (h.lim (off+k))
    have e3:=h.eq
    have e4:=h.rest (off+k) (by omega)
    rw [e4] at e1 ⊢
    generalize sLo (R.getD (off+k) 0) (pLo x (b.getD k 0) c) 0=sl at *
    generalize b.getD k 0=y at *
    generalize R.getD (off+k) 0=s at *
    generalize borrowT x y c s=bw at *
    generalize seg R' off k=s1 at *
    generalize seg R off k=s2 at *
    generalize val B64 (b.take k)=vb at *
    have e7:B64 ^ k*sl+B64 ^ k*(x*y)+B64 ^ k*c=B64 ^ k*s+B64 ^ k*(B64*bw):=by rw [← Nat.mul_add,← Nat.mul_add,e1,Nat.mul_add]
    have e8:x*(B64 ^ k*y)=B64 ^ k*(x*y):=Nat.mul_left_comm _ _ _
    rw [Nat.pow_succ,Nat.mul_assoc,Nat.mul_add x vb,e8]
    omega
theorem guess_ok {B M P D T E Pl Dl q:Nat} (hP:P=T*M+Pl) (hPl:Pl<M) (hD:D=E*M+Dl) (hDl:Dl<M) (hE:B≤E) (hq:q=T / E) (hqB:q<B) :
    P / D≤q∧q≤P / D+1:=by
  have hE0:0<E:=by omega
  have hM:0<M:=by omega
  have hEM:0<E*M:=Nat.mul_pos hE0 hM
  have hD0:0<D:=by omega
  constructor
  · rw [hq,Nat.le_div_iff_mul_le hE0]
    have h1:P / D*D≤P:=Nat.div_mul_le_self P D
    have h2:P / D*(E*M)≤P / D*D:=Nat.mul_le_mul_left _ (by omega)
    have h3:P / D*E*M<(T+1)*M:=by rw [Nat.mul_assoc,Nat.add_mul,Nat.one_mul]; omega
    have:=Nat.lt_of_mul_lt_mul_right h3
    omega
  · rcases Nat.eq_zero_or_pos q with h0 | h0
    · rw [h0]; exact Nat.zero_le _
    · obtain ⟨m,rfl⟩:∃ m,q=m+1:=⟨q - 1,by omega⟩
      have h1:(m+1)*E≤T:=by rw [hq]; exact Nat.div_mul_le_self T E
      have h2:(m+1)*E*M≤T*M:=Nat.mul_le_mul_right _ h1
      have h3:(m+1)*Dl≤B*M:=Nat.mul_le_mul (by omega) (by omega)
      have h4:B*M≤E*M:=Nat.mul_le_mul_right _ hE
      have h5:(m+1)*D=(m+1)*E*M+(m+1)*Dl:=by rw [hD,Nat.mul_add,Nat.mul_assoc]
      have h6:(m+1)*D=m*D+D:=by rw [Nat.add_mul,Nat.one_mul]
      have h7:m*D≤P:=by omega
      have:=(Nat.le_div_iff_mul_le hD0).2 h7
      omega
theorem guess_top {B N P D d t:Nat} (hD:D≤(d+1)*N) (hP:t*(B*N)≤P) (hd:d≤t) (hB:B≤2*d) (h2:2≤B) (hD0:0<D) (hlt:P<B*D):P / D≤B - 1∧B - 1≤P / D+1:=by
  constructor
  · have:=(Nat.div_lt_iff_lt_mul hD0).2 hlt
    omega
  · obtain ⟨m,rfl⟩:∃ m,B=m+2:=⟨B - 2,by omega⟩
    have h3:m*D≤P:=by
      refine Nat.le_trans (Nat.mul_le_mul_left m hD) (Nat.le_trans ?_ hP)
      have h4:d*((m+2)*N)≤t*((m+2)*N):=Nat.mul_le_mul_right _ hd
      refine Nat.le_trans ?_ h4
      rw [← Nat.mul_assoc,← Nat.mul_assoc]
      refine Nat.mul_le_mul_right _ ?_
      rw [Nat.mul_add,Nat.mul_add,Nat.mul_one,Nat.mul_comm m d]
      omega
    have:=(Nat.le_div_iff_mul_le hD0).2 h3
    omega
theorem seg_lt {R:List Nat} (h:Lim B64 R) (off n:Nat):seg R off n<B64 ^ n:=by
  unfold seg
  have h1:=val_lt (lim_take (by have:=B64_pos; omega) (lim_drop h off) n)
  refine Nat.lt_of_lt_of_le h1 (Nat.pow_le_pow_right (by have:=B64_pos; omega) ?_)
  rw [List.length_take]; omega
theorem seg_set_top {R:List Nat} {off n x:Nat} (h:off+n<R.length):seg (R.set (off+n) x) off (n+1)=seg R off n+B64 ^ n*x:=by
  rw [seg_succ _ _ _ (by rw [List.length_set]; omega),getD_set' _ _ _ _ h,if_pos rfl]
  congr 1
  exact seg_congr (by rw [List.length_set]) (fun j h1 h2=>by rw [getD_set' _ _ _ _ h,if_neg (by omega)]) (by rw [List.length_set]; omega)
structure DigT (R R':List Nat) (off n D:Nat):Prop where
  len:R'.length=R.length
  rest:∀ j,j<off∨off+n+1≤j→R'.getD j 0=R.getD j 0
  lim:Lim B64 R'
  eq:seg R' off (n+1)=seg R off (n+1) % D
theorem dig_fine {R R1 d:List Nat} {off n q c:Nat} (h:TkT R R1 off d q n c) (hn:n=d.length) (hoff:off+n<R.length) (hq:seg R off (n+1) / val B64 d≤q) (hc:c≤R1.getD (off+n) 0) (hD:0<val B64 d) :
    q=seg R off (n+1) / val B64 d∧DigT R (R1.set (off+n) (R1.getD (off+n) 0 - c)) off n (val B64 d):=by
  have hl:=h.len
  have e0:=h.rest (off+n) (by omega)
  have e1:=seg_succ R off n hoff
  have e2:=h.eq
  rw [List.take_of_length_le (by omega)] at e2
  have e3:=seg_set_top (R:=R1) (off:=off) (n:=n) (x:=R1.getD (off+n) 0 - c) (by omega)
  have hlm:=h.lim (off+n)
  obtain ⟨r,hr⟩:∃ r,R1.getD (off+n) 0=c+r:=⟨R1.getD (off+n) 0 - c,by omega⟩
  rw [← e0,hr,Nat.mul_add] at e1
  have e4:R1.getD (off+n) 0 - c=r:=by omega
  rw [e4] at e3
  have e5:seg (R1.set (off+n) r) off (n+1)+q*val B64 d=seg R off (n+1):=by omega
  have h1:q≤seg R off (n+1) / val B64 d:=(Nat.le_div_iff_mul_le hD).2 (by omega)
  have hqe:q=seg R off (n+1) / val B64 d:=by omega
  refine ⟨hqe,by rw [List.length_set,hl],fun j hj=>by rw [getD_set' _ _ _ _ (by omega),if_neg (by omega)]; exact h.rest j (by omega),lim_set h.lim (by omega) _, ?_⟩
  rw [e4]
  have e6:=Nat.mod_add_div (seg R off (n+1)) (val B64 d)
  rw [← hqe,Nat.mul_comm] at e6
  omega
theorem dig_over_q {R R1 d:List Nat} {off n q c:Nat} (h:TkT R R1 off d q n c) (hn:n=d.length) (hoff:off+n<R.length) (hq:seg R off (n+1) / val B64 d≤q) (hq1:q≤seg R off (n+1) / val B64 d+1) (hc:R1.getD (off+n) 0<c) :
    q=seg R off (n+1) / val B64 d+1∧seg R off n+B64 ^ n*c=seg R1 off n+q*val B64 d:=by
  have e0:=h.rest (off+n) (by omega)
  have e1:=seg_succ R off n hoff
  have e2:=h.eq
  rw [List.take_of_length_le (by omega)] at e2
  obtain ⟨r,hr⟩:∃ r,c=R1.getD (off+n) 0+r:=⟨c - R1.getD (off+n) 0,by omega⟩
  have hr0:0<r:=by omega
  rw [← e0] at e1
  generalize R1.getD (off+n) 0=p at *
  have e9:B64 ^ n*c=B64 ^ n*p+B64 ^ n*r:=by rw [hr,Nat.mul_add]
  have e11:B64 ^ n*1≤B64 ^ n*r:=Nat.mul_le_mul_left _ hr0
  have s1:=seg_lt h.lim off n
  have hgt:seg R off (n+1)<q*val B64 d:=by omega
  refine ⟨?_,e2.symm⟩
  rcases Nat.lt_or_ge (seg R off (n+1) / val B64 d) q with h5 | h5
  · omega
  · have h6:q=seg R off (n+1) / val B64 d:=by omega
    have:=Nat.div_mul_le_self (seg R off (n+1)) (val B64 d)
    rw [← h6] at this
    omega
theorem dig_over {R R1 R3 d:List Nat} {off n q c c3:Nat} (h:TkT R R1 off d q n c) (hn:n=d.length) (hd:Lim B64 d) (hoff:off+n<R.length) (hqe:q=seg R off (n+1) / val B64 d+1) (e2:seg R off n+B64 ^ n*c=seg R1 off n+q*val B64 d) (hc:R1.getD (off+n) 0<c) (hD:0<val B64 d)
    (h3:PutT (R1.set (off+n) (R1.getD (off+n) 0+B64 - c)) R3 off d (n+1) c3):DigT R R3 off n (val B64 d):=by
  have hl:=h.len
  have e0:=h.rest (off+n) (by omega)
  have e1:=seg_succ R off n hoff
  have e3:=seg_set_top (R:=R1) (off:=off) (n:=n) (x:=R1.getD (off+n) 0+B64 - c) (by omega)
  have hclt:=h.clt
  obtain ⟨r,hr⟩:∃ r,c=R1.getD (off+n) 0+r:=⟨c - R1.getD (off+n) 0,by omega⟩
  have hrB:r≤B64:=by omega
  rw [← e0] at e1
  have e4:R1.getD (off+n) 0+B64 - c=B64 - r:=by omega
  rw [e4] at e3 h3
  generalize R1.getD (off+n) 0=p at *
  have e9:B64 ^ n*c=B64 ^ n*p+B64 ^ n*r:=by rw [hr,Nat.mul_add]
  have e10:B64 ^ n*(B64 - r)+B64 ^ n*r=B64 ^ (n+1):=by rw [← Nat.mul_add,Nat.sub_add_cancel hrB,Nat.pow_succ]
  have f1:=h3.eq
  rw [List.take_of_length_le (by omega),e3] at f1
  have f2:=Nat.mod_add_div (seg R off (n+1)) (val B64 d)
  have f3:q*val B64 d=val B64 d*(seg R off (n+1) / val B64 d)+val B64 d:=by rw [hqe,Nat.add_mul,Nat.one_mul,Nat.mul_comm]
  have f4:=Nat.mod_lt (seg R off (n+1)) hD
  have f5:val B64 d<B64 ^ (n+1):=by
    have:=val_lt hd
    rw [← hn] at this
    exact Nat.lt_of_lt_of_le this (Nat.pow_le_pow_right (by have:=B64_pos; omega) (by omega))
  have f6:=seg_lt h3.lim off (n+1)
  have f7:seg R3 off (n+1)+B64 ^ (n+1)*c3=seg R off (n+1) % val B64 d+B64 ^ (n+1):=by omega
  have f8:=h3.cle
  refine ⟨by rw [h3.len,List.length_set,hl],fun j hj=>?_,h3.lim, ?_⟩
  · rw [h3.rest j (by omega),getD_set' _ _ _ _ (by omega),if_neg (by omega)]
    exact h.rest j (by omega)
  · have:c3=0∨c3=1:=by omega
    rcases this with rfl | rfl
    · omega
    · rw [Nat.mul_one] at f7; omega
structure LongT (R Q:List Nat) (L m n N D k:Nat):Prop where
  len:R.length=L
  qlen:Q.length=m
  lim:Lim B64 R
  qlim:Lim B64 Q
  lt:val B64 R<B64 ^ k*D
  eq:val B64 R+B64 ^ k*(val B64 (Q.drop k)*D)=N
theorem val_tail (R:List Nat) (z:Nat) (h:z≤R.length):val B64 R=seg R 0 z+B64 ^ z*val B64 (R.drop z):=by
  have:=val_split B64 R z h
  simpa [seg] using this
theorem drop_congr {R R':List Nat} {z:Nat} (hl:R'.length=R.length) (h:∀ j,z≤j→R'.getD j 0=R.getD j 0):R'.drop z=R.drop z :=
  list_congr (by simp [hl]) (fun j _=>by rw [getD_drop,getD_drop]; exact h _ (by omega))
theorem long_part {R Q:List Nat} {L m n N D i:Nat} (h:LongT R Q L m n N D (i+1)) (hD:D≤B64 ^ n) (hi:i+n+1≤L) :
    val B64 R=seg R 0 i+B64 ^ i*seg R i (n+1)∧val B64 (R.drop (i+n+1))=0∧seg R i (n+1)<B64*D:=by
  have hl:=h.len
  have e1:=val_tail R (i+(n+1)) (by omega)
  have e2:=seg_split R i (n+1) (by omega)
  have h1:=h.lt
  have h2:B64 ^ (i+1)*D≤B64 ^ (i+1)*B64 ^ n:=Nat.mul_le_mul_left _ hD
  rw [← Nat.pow_add,show i+1+n=i+(n+1) by omega] at h2
  have h3:val B64 (R.drop (i+(n+1)))=0:=by
    rcases Nat.eq_zero_or_pos (val B64 (R.drop (i+(n+1)))) with h0 | h0
    · exact h0
    · have:B64 ^ (i+(n+1))*1≤B64 ^ (i+(n+1))*val B64 (R.drop (i+(n+1))):=Nat.mul_le_mul_left _ h0
      omega
  rw [h3,e2,Nat.mul_zero,Nat.add_zero] at e1
  refine ⟨e1,h3, ?_⟩
  have h4:B64 ^ i*seg R i (n+1)<B64 ^ i*(B64*D):=by
    have e5:B64 ^ (i+1)=B64 ^ i*B64:=Nat.pow_succ _ _
    rw [← Nat.mul_assoc,← e5]; omega
  exact Nat.lt_of_mul_lt_mul_left h4
theorem long_step {R R' Q:List Nat} {L m n N D i:Nat} (h:LongT R Q L m n N D (i+1)) (hD0:0<D) (hD:D≤B64 ^ n) (hi:i+n+1≤L) (him:i<m) (hd:DigT R R' i n D) :
    LongT R' (Q.set i (seg R i (n+1) / D)) L m n N D i:=by
  obtain ⟨p1,p2,p3⟩:=long_part h hD hi
  have hl:=h.len; have hql:=h.qlen
  have hl':=hd.len
  have hqB:seg R i (n+1) / D<B64:=(Nat.div_lt_iff_lt_mul hD0).2 p3
  have e1:=val_tail R' (i+(n+1)) (by omega)
  have e2:=seg_split R' i (n+1) (by omega)
  have e3:seg R' 0 i=seg R 0 i:=seg_congr hl' (fun j h1 h2=>hd.rest j (by omega)) (by omega)
  have e4:R'.drop (i+(n+1))=R.drop (i+(n+1)):=drop_congr hl' (fun j hj=>hd.rest j (by omega))
  rw [e4,show i+(n+1)=i+n+1 from rfl,p2,Nat.mul_zero,Nat.add_zero,show i+n+1=i+(n+1) from rfl,e2,e3,hd.eq] at e1
  have s1:=seg_lt h.lim 0 i
  have s2:=Nat.mod_lt (seg R i (n+1)) hD0
  have s3:=Nat.mod_add_div (seg R i (n+1)) D
  generalize seg R i (n+1)=P at *
  refine ⟨by rw [hl',hl],by rw [List.length_set,hql],hd.lim,lim_set h.qlim hqB _, ?_, ?_⟩
  · have s4:B64 ^ i*(P % D+1)≤B64 ^ i*D:=Nat.mul_le_mul_left _ s2
    rw [Nat.mul_add,Nat.mul_one] at s4
    omega
  · have f1:=val_drop B64 (Q.set i (P / D)) i (by rw [List.length_set]; omega)
    rw [getD_set' _ _ _ _ (by omega),if_pos rfl] at f1
    have f2:(Q.set i (P / D)).drop (i+1)=Q.drop (i+1):=drop_congr (by rw [List.length_set]) (fun j hj=>by rw [getD_set' _ _ _ _ (by omega),if_neg (by omega)])
    rw [f2] at f1
    rw [f1]
    have f3:=h.eq
    rw [p1] at f3
    rw [Nat.add_mul,Nat.mul_add,e1]
    have f4:B64 ^ i*(B64*val B64 (Q.drop (i+1))*D)=B64 ^ (i+1)*(val B64 (Q.drop (i+1))*D):=by
      rw [Nat.pow_succ,Nat.mul_assoc B64,← Nat.mul_assoc]
    have f5:B64 ^ i*(P % D)+B64 ^ i*(P / D*D)=B64 ^ i*P:=by rw [← Nat.mul_add,Nat.mul_comm (P / D),s3]
    rw [f4]
    omega
theorem long_end {R Q:List Nat} {L m n N D:Nat} (h:LongT R Q L m n N D 0):val B64 Q=N / D∧val B64 R=N % D:=by
  have h1:=h.lt
  have h2:=h.eq
  simp only [Nat.pow_zero,Nat.one_mul,List.drop_zero] at h1 h2
  rw [← h2,Nat.mul_comm,Nat.add_mul_div_left _ _ (by omega),Nat.div_eq_of_lt h1,Nat.add_mul_mod_self_left,Nat.mod_eq_of_lt h1]
  exact ⟨by omega,rfl⟩
theorem norm_facts {b:List Nat} {n m' s:Nat} (lb:Lim B64 b) (hn:b.length=n+1) (h1:2 ^ m'≤b.getD n 0) (h2:b.getD n 0<2 ^ (m'+1)) (hs:s+(m'+1)=64) :
    2 ^ s*val B64 b<B64 ^ (n+1)∧2 ^ 63*B64 ^ n≤2 ^ s*val B64 b:=by
  have e1:=val_split B64 b n (by omega)
  have e2:=val_drop B64 b n (by omega)
  rw [List.drop_of_length_le (by omega:b.length≤n+1)] at e2
  have e3:val B64 (b.drop n)=b.getD n 0:=by rw [e2]; simp [val]
  rw [e3] at e1
  have e4:=val_take_lt (by have:=B64_pos; omega) lb n (by omega)
  generalize b.getD n 0=x at *
  constructor
  · have h3:val B64 b<B64 ^ n*2 ^ (m'+1):=by
      have h4:B64 ^ n*(x+1)≤B64 ^ n*2 ^ (m'+1):=Nat.mul_le_mul_left _ h2
      rw [Nat.mul_add,Nat.mul_one] at h4
      omega
    have h5:2 ^ s*val B64 b<2 ^ s*(B64 ^ n*2 ^ (m'+1)):=Nat.mul_lt_mul_of_pos_left h3 (Nat.pow_pos (by omega))
    rw [Nat.mul_left_comm,← Nat.pow_add,hs] at h5
    exact h5
  · have h6:B64 ^ n*2 ^ m'≤val B64 b:=by
      have:B64 ^ n*2 ^ m'≤B64 ^ n*x:=Nat.mul_le_mul_left _ h1
      omega
    have h7:2 ^ s*(B64 ^ n*2 ^ m')≤2 ^ s*val B64 b:=Nat.mul_le_mul_left _ h6
    rw [Nat.mul_left_comm,← Nat.pow_add,show s+m'=63 by omega,Nat.mul_comm] at h7
    exact h7
theorem norm_top {d:List Nat} {n V:Nat} (ld:Lim B64 d) (hn:n+1≤d.length) (hV:val B64 (d.take (n+1))=V) (h:2 ^ 63*B64 ^ n≤V):B64≤2*d.getD n 0:=by
  have e1:=val_take_succ B64 d n (by omega)
  have e4:=val_take_lt (by have:=B64_pos; omega) ld n (by omega)
  have h1:B64 ^ n*2 ^ 63<B64 ^ n*(d.getD n 0+1):=by
    rw [Nat.mul_add,Nat.mul_one,Nat.mul_comm _ (2 ^ 63)]; omega
  have h2:=Nat.lt_of_mul_lt_mul_left h1
  have h3:B64=2*2 ^ 63:=rfl
  omega
end Go.Proofs.YtacbkpenohcgjaaGreat.Mth
namespace Go.Proofs.YtacbkpenohcgjaaGreat.Mth
end Go.Proofs.YtacbkpenohcgjaaGreat.Mth
namespace Go.Proofs.YtacbkpenohcgjaaGreat.Mth
end Go.Proofs.YtacbkpenohcgjaaGreat.Mth
namespace Go.Proofs.YtacbkpenohcgjaaGreat.Mth
def sgn (z:Int):Bool:=decide (z<0)
def sg (n:Bool) (m:Nat):Int:=if n=true then -(m:Int) else (m:Int)
theorem natAbs_sg (n:Bool) (m:Nat):(sg n m).natAbs=m:=by unfold sg; split<;>omega
theorem sgn_neg {z:Int} (h:z<0):sgn z=true:=decide_eq_true h
theorem sgn_pos {z:Int} (h:0≤z):sgn z=false:=decide_eq_false (by omega)
theorem of_sgn_true {z:Int} (h:sgn z=true):z<0:=of_decide_eq_true h
theorem of_sgn_false {z:Int} (h:sgn z=false):0≤z:=by have:=of_decide_eq_false h; omega
theorem sg_sgn (z:Int):sg (sgn z) z.natAbs=z:=by
  unfold sg
  by_cases h:z<0
  · rw [sgn_neg h,if_pos rfl]; omega
  · rw [sgn_pos (by omega),if_neg (by simp)]; omega
theorem sgn_sg {n:Bool} {m:Nat} (h:0<m):sgn (sg n m)=n:=by
  cases n
  · exact sgn_pos (by unfold sg; simp)
  · exact sgn_neg (by unfold sg; simp; omega)
theorem sgn_sg0 (n:Bool):sgn (sg n 0)=false:=sgn_pos (by unfold sg; split<;>simp)
theorem sg_false (m:Nat):sg false m=(m:Int):=rfl
theorem sg_true (m:Nat):sg true m=-(m:Int):=rfl
theorem sg_not (z:Int):sg (!sgn z) z.natAbs=-z:=by
  by_cases h:z<0
  · rw [sgn_neg h]; show sg false _=_; rw [sg_false]; omega
  · rw [sgn_pos (by omega)]; show sg true _=_; rw [sg_true]; omega
theorem sgn_nat (m:Nat):sgn (m:Int)=false:=sgn_pos (by omega)
def zN (z:Int):Int:=if Big≤z.natAbs then 0 else z
def zE (z:Int):Int:=if Big≤z.natAbs then 5 else 0
theorem z_big {z:Int} (h:Big≤z.natAbs):zN z=0∧zE z=5:=⟨if_pos h,if_pos h⟩
theorem z_fine {z:Int} (h:z.natAbs<Big):zN z=z∧zE z=0:=⟨if_neg (by omega),if_neg (by omega)⟩
theorem cutN_zN (z:Int):cutN z.natAbs=(zN z).natAbs:=by unfold cutN zN; split<;>simp
def zcmp (a b:Int):Int:=if a<b then -1 else if b<a then 1 else 0
theorem zcmp_lt {a b:Int} (h:a<b):zcmp a b=-1:=if_pos h
theorem zcmp_gt {a b:Int} (h:b<a):zcmp a b=1:=by unfold zcmp; rw [if_neg (by omega),if_pos h]
theorem zcmp_eq {a b:Int} (h:a=b):zcmp a b=0:=by unfold zcmp; rw [if_neg (by omega),if_neg (by omega)]
theorem zcmp_nat (m n:Nat):zcmp (m:Int) (n:Int)=cmp3 m n:=by
  unfold zcmp cmp3
  by_cases h:m<n
  · rw [if_pos (by omega),if_pos h]
  · rw [if_neg (by omega),if_neg h]
    by_cases h2:n<m
    · rw [if_pos (by omega),if_pos h2]
    · rw [if_neg (by omega),if_neg h2]
theorem zcmp_neg (a b:Int):zcmp (-a) (-b)=zcmp b a:=by
  unfold zcmp
  by_cases h:b<a
  · rw [if_pos (by omega),if_pos h]
  · rw [if_neg (by omega),if_neg h]
    by_cases h2:a<b
    · rw [if_pos (by omega),if_pos h2]
    · rw [if_neg (by omega),if_neg h2]
theorem zcmp_abs_pos {a b:Int} (ha:0≤a) (hb:0≤b):zcmp a b=cmp3 a.natAbs b.natAbs:=by
  rw [← zcmp_nat]; congr 1<;>omega
theorem zcmp_abs_neg {a b:Int} (ha:a<0) (hb:b<0):zcmp a b=cmp3 b.natAbs a.natAbs:=by
  rw [← zcmp_nat,← zcmp_neg]; congr 1<;>omega
theorem zcmp_zero (a:Int):zcmp a 0=if a<0 then -1 else if 0<a then 1 else 0:=rfl
def qC (a b:Int):Int:=sg (sgn a != sgn b) (a.natAbs / b.natAbs)
def rC (a b:Int):Int:=sg (sgn a) (a.natAbs % b.natAbs)
def qE (a b:Int):Int:=if rC a b<0 then (if b<0 then qC a b+1 else qC a b - 1) else qC a b
def rE (a b:Int):Int:=if rC a b<0 then rC a b+(b.natAbs:Int) else rC a b
def qF (a b:Int):Int:=if rC a b≠0∧sgn a≠sgn b then qC a b - 1 else qC a b
def qU (a b:Int):Int:=if rC a b≠0∧sgn a=sgn b then qC a b+1 else qC a b
theorem amt_qC (a b:Int):(qC a b).natAbs=a.natAbs / b.natAbs:=natAbs_sg _ _
theorem amt_rC (a b:Int):(rC a b).natAbs=a.natAbs % b.natAbs:=natAbs_sg _ _
theorem sg_mul (m n:Bool) (x y:Nat):sg m x*sg n y=sg (m != n) (x*y):=by
  cases m<;>cases n<;>simp [sg,Int.neg_mul,Int.mul_neg]
theorem mul_sg (a b:Int):a*b=sg (sgn a != sgn b) (a.natAbs*b.natAbs):=by
  rw [← sg_mul,sg_sgn,sg_sgn]
theorem cut_again (a b:Int):qC a b*b+rC a b=a:=by
  have e:qC a b*b=sg (sgn a) (a.natAbs / b.natAbs*b.natAbs):=by
    unfold qC
    calc sg (sgn a != sgn b) (a.natAbs / b.natAbs)*b=sg (sgn a != sgn b) (a.natAbs / b.natAbs)*sg (sgn b) b.natAbs:=by rw [sg_sgn]
      _=_:=by rw [sg_mul]; congr 1; cases sgn a<;>cases sgn b<;>rfl
  rw [e]
  unfold rC
  have h:=Nat.div_add_mod' a.natAbs b.natAbs
  conv=>rhs; rw [← sg_sgn a]
  unfold sg
  split<;>omega
theorem rC_bounds {a b:Int} (hb:b≠0):(rC a b).natAbs<b.natAbs:=by rw [amt_rC]; exact Nat.mod_lt _ (by omega)
theorem sgn_rC {a b:Int} (h:rC a b≠0):sgn (rC a b)=sgn a:=by
  unfold rC at h ⊢
  refine sgn_sg ?_
  rcases Nat.eq_zero_or_pos (a.natAbs % b.natAbs) with h0 | h0
  · rw [h0] at h; exact absurd (by unfold sg; split<;>simp) h
  · exact h0
end Go.Proofs.YtacbkpenohcgjaaGreat.Mth
namespace Go.Proofs.YtacbkpenohcgjaaGreat.Mth
structure ESt where
  p:Nat
  q:Nat
  a:Nat
  b:Nat
  c:Nat
  d:Nat
  ng:Bool
end Go.Proofs.YtacbkpenohcgjaaGreat.Mth
namespace Go.Proofs.YtacbkpenohcgjaaGreat.Mth
theorem e_again (a b:Int):qE a b*b+rE a b=a:=by
  have h:=cut_again a b
  unfold qE rE
  by_cases h1:rC a b<0
  · rw [if_pos h1,if_pos h1]
    by_cases h2:b<0
    · rw [if_pos h2,Int.add_mul]; omega
    · rw [if_neg h2,Int.sub_mul]; omega
  · rw [if_neg h1,if_neg h1]; exact h
theorem rE_bounds {a b:Int} (hb:b≠0):0≤rE a b∧rE a b<(b.natAbs:Int):=by
  have h:=rC_bounds (a:=a) hb
  unfold rE
  split<;>omega
theorem qE_near (a b:Int):(qC a b - qE a b).natAbs≤1:=by
  unfold qE
  split
  · split<;>omega
  · omega
theorem f_cases (a b:Int):(rC a b=0∧qF a b=qC a b∧qU a b=qC a b)∨(rC a b≠0∧sgn a≠sgn b∧qF a b=qC a b - 1∧qU a b=qC a b)∨(rC a b≠0∧sgn a=sgn b∧qF a b=qC a b∧qU a b=qC a b+1):=by
  unfold qF qU
  by_cases h:rC a b=0
  · exact .inl ⟨h,if_neg (fun h2=>h2.1 h),if_neg (fun h2=>h2.1 h)⟩
  · by_cases h2:sgn a=sgn b
    · exact .inr (.inr ⟨h,h2,if_neg (fun h3=>h3.2 h2),if_pos ⟨h,h2⟩⟩)
    · exact .inr (.inl ⟨h,h2,if_pos ⟨h,h2⟩,if_neg (fun h3=>h2 h3.2)⟩)
theorem near_rest {a b:Int} (hb:b≠0):(a - qF a b*b).natAbs<b.natAbs∧(a - qF a b*b=0∨(0<a - qF a b*b∧0<b)∨(a - qF a b*b<0∧b<0)):=by
  have h:=cut_again a b
  have h3:=rC_bounds (a:=a) hb
  rcases f_cases a b with ⟨h0,h1,_⟩ | ⟨h0,hs,h1,_⟩ | ⟨h0,hs,h1,_⟩
  · rw [h1]
    have:a - qC a b*b=rC a b:=by omega
    rw [this,h0]
    exact ⟨by omega,.inl rfl⟩
  · rw [h1]
    have:a - (qC a b - 1)*b=rC a b+b:=by rw [Int.sub_mul]; omega
    rw [this]
    have e:=sgn_rC h0
    cases hb2:sgn b
    · have hbp:=of_sgn_false hb2
      have hr:rC a b<0:=of_sgn_true (by rw [e]; cases h5:sgn a<;>simp_all)
      exact ⟨by omega,.inr (.inl ⟨by omega,by omega⟩)⟩
    · have hbn:=of_sgn_true hb2
      have hr:0≤rC a b:=of_sgn_false (by rw [e]; cases h5:sgn a<;>simp_all)
      exact ⟨by omega,.inr (.inr ⟨by omega,by omega⟩)⟩
  · rw [h1]
    have:a - qC a b*b=rC a b:=by omega
    rw [this]
    have e:=sgn_rC h0
    cases hb2:sgn b
    · have hbp:=of_sgn_false hb2
      have hr:0≤rC a b:=of_sgn_false (by rw [e,hs,hb2])
      exact ⟨by omega,.inr (.inl ⟨by omega,by omega⟩)⟩
    · have hbn:=of_sgn_true hb2
      have hr:rC a b<0:=of_sgn_true (by rw [e,hs,hb2])
      exact ⟨by omega,.inr (.inr ⟨by omega,by omega⟩)⟩
end Go.Proofs.YtacbkpenohcgjaaGreat.Mth
namespace Go.Proofs.YtacbkpenohcgjaaGreat.Mth
def r1 (s:ESt):Int:=sg s.ng s.a
def r2 (s:ESt):Int:=sg (!s.ng) s.b
def r3 (s:ESt):Int:=sg (!s.ng) s.c
def r4 (s:ESt):Int:=sg s.ng s.d
end Go.Proofs.YtacbkpenohcgjaaGreat.Mth
namespace Go.Proofs.YtacbkpenohcgjaaGreat.Mth
theorem lt_bl (n:Nat):n<2 ^ bl n:=by
  by_cases h:n=0
  · subst h; exact Nat.two_pow_pos _
  · obtain ⟨m,e,_,h2⟩:=bl_spec h
    rw [e]; exact h2
theorem b64_two:B64=2 ^ 64:=rfl
end Go.Proofs.YtacbkpenohcgjaaGreat.Mth
