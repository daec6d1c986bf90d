/-
 Texts that are laid as one: Math, MathPre, MathWrap, MathTake, MathTxt, MathBack, MathStrs, MathItems, MathList, MathRow, MathStep.
-/
import Derived.WalkSpells
import Derived.WalkLawsBesides
import Derived.Deep.RegionHeld3
import Derived.Deep.AppendLies
import Derived.Deep.Onto
import Derived.Lib.Join
import Derived.Deep.RegionLaw
namespace Go.Proofs.YtiadimhoolekbaaGreatDoor
open Go.RowKit
set_option linter.unusedVariables false
def zg (l:List UInt8):List Value:=l.map fun b=>.int .u8 (b.toNat:Int)
theorem zer (l:List UInt8):(zg l).length=l.length:=by simp[zg]
def nibs (l:List UInt8):List UInt8:=l.flatMap fun b=>[b / 16,b % 16]
theorem ze6 (l:List UInt8):(nibs l).length=2*l.length:=by
 induction l with
 | nil=>rfl
 | cons a l ih=>simp only[nibs,List.flatMap_cons,List.length_append,List.length_cons,List.length_nil] at ih ⊢;omega
theorem take_snoc (s:ByteArray) (k:Nat) (h:k<s.size):s.data.toList.take (k+1)=s.data.toList.take k ++ [s[k]]:=by
 rw[List.take_succ_eq_append_getElem (by simpa using h)];rfl
theorem zio (s:ByteArray) (k:Nat) (h:¬ k<s.size):s.data.toList.take k=s.data.toList:=List.take_of_length_le (by simpa using Nat.le_of_not_lt h)
theorem zqp (s:ByteArray) (k:Nat) (h:k<s.size):nibs (s.data.toList.take (k+1))=nibs (s.data.toList.take k) ++ [s[k] / 16,s[k] % 16]:=by
 rw[take_snoc s k h];simp[nibs]
theorem zzz (n:Int) (h0:0≤n) (h1:n<256):IntKind.u8.wrap n=n:=by
 simp[IntKind.wrap,IntKind.signed,IntKind.bits];omega
theorem za00 (b:UInt8):IntKind.u8.wrap ((b.toNat:Int) / 16)=((b / 16).toNat:Int):=by
 have:=b.toNat_lt
 rw[zzz _ (by omega) (by omega)];simp
theorem za01 (b:UInt8):(b.toNat:Int) / 16=((b / 16).toNat:Int):=by simp
theorem za02 (b:UInt8):((b.toNat:Int)).tmod 16=((b % 16).toNat:Int):=by
 rw[Int.tmod_eq_emod_of_nonneg (by omega)];simp
theorem za03:∀ n:Fin 256,bits BinOp.and IntKind.u8 ((n.val:Nat):Int) 15=((n.val % 16:Nat):Int):=by decide +kernel
theorem u8_and15 (b:UInt8):bits BinOp.and IntKind.u8 (b.toNat:Int) 15=((b % 16).toNat:Int):=by
 have:=za03 ⟨b.toNat,b.toNat_lt⟩
 simpa using this
theorem zg9 (g j:Nat):(⟨g,0,none⟩:Addr).add j=⟨g,j,none⟩:=by unfold Addr.add;split <;> simp_all
theorem zd8 {P:Program} {w:World} {base e t d g n cap:Nat} {l:List UInt8} (hs:P.underlying t=some (.slice e)) (he:P.underlying e=some (.int .u8)) (hd:P.underlying d=some .string)
 (h:w.ownsRow base e 1 (.slice (some ⟨g,0,none⟩) n cap) n (zg l)):(convert t d (.slice (some ⟨g,0,none⟩) n cap)).run P w=.ok (.string ⟨l.toArray⟩) w:=by
 have hn:n=l.length:=by have:=h.1;simp[zg] at this;omega
 subst hn
 refine run_convert_bytes_back w t d e _ cap l hs he hd fun j hj=>?_
 rw[zg9,h.cellAt j (by omega)]
 simp[zg,List.getElem?_eq_getElem hj]
theorem own_base {w:World} {base e size g n cap:Nat} {xs:List Value} (h:w.ownsRow base e size (.slice (some ⟨g,0,none⟩) n cap) n xs):base≤g:=by
 rcases h.2 with ⟨h',_⟩ | ⟨g',cap',cur,h',hb,_⟩
 · simp at h'
 · simp only[Value.slice.injEq,Option.some.injEq,Addr.mk.injEq,and_true,true_and] at h'
   obtain⟨rfl,rfl⟩:=h'
   exact hb
theorem zff {B g n cap:Nat} {w wr w1:World} {o:Obj} (hbel:Below B w wr) (hB:B≤wr.heap.size) (hg:B≤g) (hgrow:(wr.alloc o).drew.grownBy w1 (Value.slice (some ⟨g,0,none⟩) n cap).ownBlock):Below B w w1 :=
 ((hbel.alloc hB o).drew).grown hgrow (by simp;omega) (by intro j hj;simp[Value.ownBlock] at hj;subst hj;exact hg)
theorem zlk {B g n cap:Nat} {w wr w1:World} {o:Obj} (hbel:Below B w wr) (hB:B≤wr.heap.size) (hg:B≤g) (hgrow:(wr.alloc o).grownBy w1 (Value.slice (some ⟨g,0,none⟩) n cap).ownBlock):Below B w w1 :=
 (hbel.alloc hB o).grown hgrow (by simp;omega) (by intro j hj;simp[Value.ownBlock] at hj;subst hj;exact hg)
theorem zd9 {a b:List UInt8} (h:a=b):Ending.returned (.string ⟨a.toArray⟩)=.returned (.string ⟨b.toArray⟩):=by rw[h]
def zo (l:List UInt8):Bool:=l.all fun b=>decide (b.toNat≤15)
theorem zqq (s:ByteArray) (k:Nat) (h:k<s.size):zo (s.data.toList.take (k+1))=(zo (s.data.toList.take k) && decide (s[k].toNat≤15)):=by
 rw[take_snoc s k h];simp[zo]
theorem zqr (s:ByteArray) (k:Nat) (h:k<s.size) (hb:¬ s[k].toNat≤15):zo s.data.toList=false:=by
 have hm:s[k]∈s.data.toList:=by
  have:s[k]=s.data.toList[k]'(by simpa using h):=rfl
  rw[this];exact List.getElem_mem _
 unfold zo
 rw[List.all_eq_false]
 exact⟨s[k],hm,by simpa using hb⟩
theorem za05 (l:List UInt8) (h:zo l=true) (k:Nat) (hk:k<l.length):l[k].toNat≤15:=by
 unfold zo at h
 rw[List.all_eq_true] at h
 simpa using h l[k] (List.getElem_mem _)
def pack:List UInt8→List UInt8
 | a :: b :: r=>(16*a+b) :: pack r
 | _=>[]
theorem zll:∀ (k:Nat) (l:List UInt8) (h:2*k+1<l.length),pack (l.take (2*(k+1)))=pack (l.take (2*k)) ++ [16*l[2*k]+l[2*k+1]]
 | 0,a :: b :: r,_=>by simp[pack]
 | k + 1, a :: b :: r, h => by
   have:=zll k r (by simp at h;omega)
   simp only[show 2*(k+1+1)=2*(k+1)+1+1 from by omega,show 2*(k+1)=2*k+1+1 from by omega,List.take_succ_cons,pack,List.cons_append,List.getElem_cons_succ] at this ⊢
   rw[this]
 | _,[],h=>by simp at h
 | _,[_],h=>by simp at h
theorem zqs:∀ (k:Nat) (l:List UInt8) (_:2*k≤l.length),(pack (l.take (2*k))).length=k
 | 0,_,_=>by simp[pack]
 | k + 1, a :: b :: r, h => by
   have:=zqs k r (by simp at h;omega)
   simp only[show 2*(k+1)=2*k+1+1 from by omega,List.take_succ_cons,pack,List.length_cons]
   rw[this]
 | _+1,[],h=>by simp at h
 | _+1,[_],h=>by simp at h;omega
def zaa (l:List UInt8) (leaf:Bool):List UInt8 :=
 if l.length % 2=1 then (if leaf then 3 else 1) :: l else (if leaf then 2 else 0) :: 0 :: l
theorem za06:∀ a b:Fin 16,bits BinOp.or IntKind.u8 (IntKind.u8.wrap (((a.val:Nat):Int)*16)) ((b.val:Nat):Int)=((16*a.val+b.val:Nat):Int):=by decide +kernel
theorem za07 (a b:UInt8) (ha:a.toNat≤15) (hb:b.toNat≤15):((16*a+b:UInt8).toNat:Int)=16*(a.toNat:Int)+(b.toNat:Int):=by
 simp;omega
theorem za08 (a b:UInt8) (ha:a.toNat≤15) (hb:b.toNat≤15):bits BinOp.or IntKind.u8 (IntKind.u8.wrap ((a.toNat:Int)*16)) (b.toNat:Int)=((16*a+b:UInt8).toNat:Int):=by
 rw[za07 a b ha hb]
 have:=za06 ⟨a.toNat,by omega⟩ ⟨b.toNat,by omega⟩
 simp only at this
 rw[this];omega
theorem zga (l:List UInt8) (b:UInt8):zg (l ++ [b])=zg l ++ [.int .u8 (b.toNat:Int)]:=by simp[zg]
theorem zqt (s:ByteArray) (m k:Nat) (hm:m=2*k) (h:m+1<s.size):pack (s.data.toList.take (2*(k+1)))=pack (s.data.toList.take (2*k)) ++ [16*s[m]+s[m+1]]:=by
 subst hm
 rw[zll k s.data.toList (by simpa using h)]
 rfl
theorem zqu (s:ByteArray) (h:zo s.data.toList=true) (m:Nat) (hm:m<s.size):s[m].toNat≤15 :=
 za05 s.data.toList h m (by simpa using hm)
theorem zqv (W:World) (B:Nat) (hB:W.heap.size=B) (s:ByteArray) (cap:Nat) (t:TypeId) (fr:Nat × Nat) (j:Nat) (u:Value) (hu:(zg s.data.toList)[j]? = some u) :
 (W.alloc (.cells (bytesRow s cap) t fr)).drew.cell? ((⟨B,0,none⟩:Addr).add j)=some u:=by
 subst hB
 have hj:j<s.data.size:=by
  have:=(List.getElem?_eq_some_iff.1 hu).1
  simpa [zg] using this
 rw[zg9]
 show (W.alloc (.cells (bytesRow s cap) t fr)).cell? ⟨W.heap.size,j,none⟩=some u
 rw[World.cell?_alloc_mark,bytesRow_at s cap j hj]
 simp only[zg,List.getElem?_map,Array.getElem?_toList,Array.getElem?_eq_getElem hj,Option.map_some] at hu
 exact hu
theorem zh4 (l:List UInt8):∀ u∈zg l,u.oneCell'=true:=by
 intro u hu
 simp only[zg,List.mem_map] at hu
 obtain⟨b,_,rfl⟩:=hu
 rfl
theorem zip {w:World} {base e size n:Nat} {v:Value} {xs:List Value} (h:w.ownsRow base e size v n xs) (hn:v≠.slice none 0 0):∃ g cap,v=.slice (some ⟨g,0,none⟩) n cap:=by
 rcases h.2 with ⟨h',_⟩ | ⟨g,cap,_,h',_⟩
 · exact absurd h' hn
 · exact⟨g,cap,h'⟩
theorem ze7 {w:World} {base e size g n cap:Nat} {xs:List Value} (h:w.ownsRow base e size (.slice (some ⟨g,0,none⟩) n cap) n xs):g<w.heap.size:=by
 rcases h.2 with ⟨h',_⟩ | ⟨g',cap',cur,h',_,hg,_⟩
 · simp at h'
 · simp only[Value.slice.injEq,Option.some.injEq,Addr.mk.injEq,and_true,true_and] at h'
   obtain⟨rfl,rfl⟩:=h'
   exact (Array.getElem?_eq_some_iff.1 hg).1
theorem ziq {w wr:World} {base e g n cap:Nat} {l:List UInt8} (h:w.ownsRow base e 1 (.slice (some ⟨g,0,none⟩) n cap) n (zg l)) (hb:Below w.heap.size w wr) (j:Nat) (hj:j<l.length) :
 wr.cell? ⟨g,j,none⟩=some (.int .u8 (l[j].toNat:Int)):=by
 have hn:n=l.length:=by have:=h.1;simp[zg] at this;omega
 rw[hb.cell (p:=⟨g,j,none⟩) (ze7 h),h.cellAt j (by omega)]
 simp[zg,List.getElem?_eq_getElem hj]
theorem zqw (l:List UInt8) (m k:Nat) (hm:m=2*k) (h:m+1<l.length):pack (l.take (2*(k+1)))=pack (l.take (2*k)) ++ [16*l[m]+l[m+1]]:=by
 subst hm
 exact zll k l h
theorem zir (l:List UInt8) (leaf:Bool) (h:l.length % 2=1):zaa l leaf=(if leaf then 3 else 1) :: l:=by simp[zaa,h]
theorem zis (l:List UInt8) (leaf:Bool) (h:l.length % 2=0):zaa l leaf=(if leaf then 2 else 0) :: 0 :: l:=by simp[zaa,h]
theorem zcl (W:World) (o:Obj) (B:Nat) (h:W.heap.size=B):(W.alloc o).heap[B]? = some o:=by
 subst h;exact heap_alloc_new W o
theorem zlm (a b:UInt8):IntKind.u8.wrap (IntKind.u8.wrap (16*(a.toNat:Int))+(b.toNat:Int))=((16*a+b:UInt8).toNat:Int):=by
 simp[IntKind.wrap,IntKind.signed,IntKind.bits]
theorem zar (n:Int) (h0 : -1000000000000≤n) (h1:n≤1000000000000):IntKind.i64.wrap n=n:=by
 simp[IntKind.wrap,IntKind.signed,IntKind.bits];omega
def numB:Nat→Nat→List UInt8
 | 0,_=>[]
 | f+1,n=>if n=0 then [] else numB f (n / 256) ++ [UInt8.ofNat n]
def bigB (n k:Nat):List UInt8:=(List.range k).map fun j=>UInt8.ofNat (n / 2 ^ (8*(k - 1 - j)))
theorem ze8 (n k:Nat):(bigB n k).length=k:=by simp[bigB]
theorem zqx (n k j:Nat) (h:j<k):(bigB n k).take (j+1)=(bigB n k).take j ++ [UInt8.ofNat (n / 2 ^ (8*(k - 1 - j)))]:=by
 rw[List.take_succ_eq_append_getElem (by simpa [bigB] using h)]
 simp[bigB]
theorem byte_of (n:Nat):((UInt8.ofNat n).toNat:Int)=(n:Int) % 256:=by
 rw[UInt8.toNat_ofNat'];simp
theorem zqy (n e:Nat):((UInt8.ofNat (n / 2 ^ e)).toNat:Int)=(n:Int) / 2 ^ e % 256:=by
 rw[byte_of];simp
def strip:List UInt8→List UInt8
 | a :: b :: r=>if a=0 then strip (b :: r) else a :: b :: r
 | l=>l
theorem zit (b:UInt8) (r:List UInt8):strip (0 :: b :: r)=strip (b :: r):=by simp[strip]
theorem zln (l:List UInt8) (h:l.length≤1∨∃ a r,l=a :: r∧a≠0):strip l=l:=by
 rcases h with h | ⟨a,r,rfl,ha⟩
 · match l,h with
   | [],_=>rfl
   | [_],_=>rfl
   | _ :: _ :: _,h=>simp at h
 · cases r with
   | nil=>rfl
   | cons b r=>simp[strip,ha]
theorem za09 (f m:Nat) (h:m<256 ^ (f+1)) (h0:0<m):numB (f+1) m=numB f (m / 256) ++ [UInt8.ofNat m]∧m / 256<256 ^ f:=by
 rw[Nat.pow_succ] at h
 exact⟨by rw[numB,if_neg (by omega)],by omega⟩
theorem zh5 (f:Nat):numB f 0=[]:=by cases f <;> simp[numB]
theorem zlo (n:Nat) (h:0<n) (h1:n<256):numB 8 n=[UInt8.ofNat n]:=by
 rw[numB,if_neg (by omega),show n / 256=0 from by omega,zh5];rfl
theorem zlp (n:Nat) (h:256≤n) (h1:n<65536):numB 8 n=[UInt8.ofNat (n / 256),UInt8.ofNat n]:=by
 rw[numB,if_neg (by omega),numB,if_neg (by omega),show n / 256 / 256=0 from by omega,zh5];rfl
theorem za0a (n:Nat) (h:0<n) (h1:n<65536):strip (bigB n 4)=numB 8 n:=by
 have e:bigB n 4=[0,0,UInt8.ofNat (n / 256),UInt8.ofNat n]:=by
  have h3:n / 2 ^ 24=0:=by omega
  have h2:n / 2 ^ 16=0:=by omega
  simp only[bigB,List.range,List.range.loop,List.map_cons,List.map_nil]
  simp[h3,h2]
 rw[e,zit,zit]
 by_cases hs:n<256
 · have:n / 256=0:=by omega
   rw[zlo n h hs,this]
   have:(UInt8.ofNat 0)=0:=rfl
   rw[this,zit,zln _ (.inl (by simp))]
 · rw[zlp n (by omega) h1]
   refine zln _ (.inr ⟨_,_,rfl,fun h0=>?_⟩)
   have:=congrArg UInt8.toNat h0
   simp at this
   omega
theorem za0b (m:Nat) (hm:m<9223372036854775808):bits BinOp.and IntKind.i64 (m:Int) 255 % 256=((UInt8.ofNat m).toNat:Int):=by
 have hx:m &&& 255=m % 256:=Nat.and_two_pow_sub_one_eq_mod m 8
 have:bits BinOp.and IntKind.i64 (m:Int) 255=((m % 256:Nat):Int):=by
  show IntKind.i64.wrap ((BitVec.ofInt 64 (m:Int) &&& BitVec.ofInt 64 ((255:Nat):Int)).toNat:Int)=_
  rw[BitVec.toNat_and,ofInt_u64 m (by omega),ofInt_u64 255 (by omega),hx]
  simp[IntKind.wrap,IntKind.signed,IntKind.bits];omega
 rw[this,byte_of];omega
def zae (l:List UInt8) (h:Nat):List UInt8 :=
 if l.length≤55 then UInt8.ofNat (h+l.length) :: l else UInt8.ofNat (h+55+(numB 8 l.length).length) :: (numB 8 l.length ++ l)
theorem zqz (n:Nat) (h:0<n) (h1:n<65536):(numB 8 n).length≤2:=by
 by_cases hs:n<256
 · rw[zlo n h hs];simp
 · rw[zlp n (by omega) h1];simp
theorem zlq (b:UInt8) (l:List UInt8):(ByteArray.mk #[b]) ++ ByteArray.mk l.toArray=⟨(b :: l).toArray⟩:=by
 apply ByteArray.ext;simp
theorem ba_eq (s:ByteArray):s=⟨s.data.toList.toArray⟩:=by
 apply ByteArray.ext;simp
theorem ziu (a:List UInt8) (s:ByteArray):ByteArray.mk a.toArray ++ s=⟨(a ++ s.data.toList).toArray⟩:=by
 apply ByteArray.ext;simp
theorem za0c (l:List UInt8):(ByteArray.mk l.toArray).extract 1 l.length=⟨l.tail.toArray⟩:=by
 apply ByteArray.ext
 simp[ByteArray.extract,ByteArray.copySlice]
 exact List.take_of_length_le (by simp)
def valB (l:List UInt8):Nat:=l.foldl (fun n b=>256*n+b.toNat) 0
theorem zls (l:List UInt8) (b:UInt8):valB (l ++ [b])=256*valB l+b.toNat:=by simp[valB]
theorem za0d:∀ (k:Nat) (l:List UInt8),l.length≤k→valB l<256 ^ k:=by
 intro k
 induction k with
 | zero=>intro l h;have:l=[]:=List.length_eq_zero_iff.1 (by omega);subst this;decide
 | succ k ih =>
   intro l h
   by_cases hl:l=[]
   · subst hl;exact Nat.pow_pos (by decide)
   · rw[←List.dropLast_concat_getLast hl,zls]
     have h1:=ih l.dropLast (by simp;omega)
     have h2:=(l.getLast hl).toNat_lt
     rw[Nat.pow_succ]
     omega
theorem zlt (l:List UInt8) (k:Nat) (h:k<l.length):valB (l.take (k+1))=256*valB (l.take k)+l[k].toNat:=by
 rw[List.take_succ_eq_append_getElem h,zls]
theorem zh6 (l:List UInt8) (j:Nat) (hj:j≤3):valB (l.take j)<16777216:=by
 have h:(l.take j).length≤3:=by simp;omega
 exact za0d 3 _ h
def lenOf (n:Nat) (r:List UInt8):Option (Nat × List UInt8) :=
 if n≤55 then some (n,r)
 else if r.length<n - 55∨3<n - 55∨r.head? = some 0∨valB (r.take (n - 55))≤55 then none
 else some (valB (r.take (n - 55)),r.drop (n - 55))
def lone (n:Nat) (r:List UInt8):Bool:=match r with
 | b :: _=>decide (n=1) && decide (b.toNat<128)
 | []=>false
def zr : List UInt8 → Option (Nat × List UInt8 × List UInt8)
 | []=>none
 | b :: r =>
   if b.toNat<128 then some (1,[b],r)
   else if b.toNat<192 then
    match lenOf (b.toNat - 128) r with
    | none=>none
    | some (n,r')=>if r'.length<n∨60000<n∨lone n r'=true then none else some (1,r'.take n,r'.drop n)
   else
    match lenOf (b.toNat - 192) r with
    | none=>none
    | some (n,r')=>if r'.length<n∨60000<n then none else some (2,r'.take n,r'.drop n)
theorem zr0 (b:UInt8) (r:List UInt8) (h1:¬ b.toNat<128) (h2:b.toNat<192):zr (b :: r)=match lenOf (b.toNat - 128) r with
 | none=>none
 | some (n,r')=>if r'.length<n∨60000<n∨lone n r'=true then none else some (1,r'.take n,r'.drop n):=by
 simp only[zr];rw[if_neg h1,if_pos h2]
theorem zr1 (b:UInt8) (r:List UInt8) (h2:¬ b.toNat<192):zr (b :: r)=match lenOf (b.toNat - 192) r with
 | none=>none
 | some (n,r')=>if r'.length<n∨60000<n then none else some (2,r'.take n,r'.drop n):=by
 simp only[zr];rw[if_neg (by omega),if_neg h2]
def tkV:Option (Nat × List UInt8 × List UInt8)→Value
 | none=>.tuple #[.int .i64 0,.string ⟨#[]⟩,.string ⟨#[]⟩,.bool false]
 | some (k,b,r)=>.tuple #[.int .i64 (k:Int),.string ⟨b.toArray⟩,.string ⟨r.toArray⟩,.bool true]
theorem zdr (l:List UInt8) (n:Nat) (h:n≤l.length):(ByteArray.mk l.toArray).extract 0 n=⟨(l.take n).toArray⟩:=by
 apply ByteArray.ext
 simp[ByteArray.extract,ByteArray.copySlice]
theorem zbq (l:List UInt8) (n:Nat) (h:n≤l.length):(ByteArray.mk l.toArray).extract n l.length=⟨(l.drop n).toArray⟩:=by
 apply ByteArray.ext
 simp[ByteArray.extract,ByteArray.copySlice]
 exact List.take_of_length_le (by simp)
theorem zr2 {P:Program} {t:TypeId} (ht:P.underlying t=some .string) (l:List UInt8) (x:Int) (n:Nat) (hx:x=(n:Int)) (h:n≤l.length) (W:World) :
 (Instr.slice t (.string ⟨l.toArray⟩) none (some (.int .i64 x)) none).run P W=.ok (.string ⟨(l.take n).toArray⟩) W:=by
 subst hx
 have hz:(ByteArray.mk l.toArray).size=l.length:=by simp[ByteArray.size]
 rw[run_slice_string_to_if W t _ _ _ ht,if_pos (by rw[hz];omega),Int.toNat_natCast,zdr l n h]
theorem zr3 {P:Program} {t:TypeId} (ht:P.underlying t=some .string) (l:List UInt8) (x:Int) (n:Nat) (hx:x=(n:Int)) (h:n≤l.length) (W:World) :
 (Instr.slice t (.string ⟨l.toArray⟩) (some (.int .i64 x)) none none).run P W=.ok (.string ⟨(l.drop n).toArray⟩) W:=by
 subst hx
 have hz:(ByteArray.mk l.toArray).size=l.length:=by simp[ByteArray.size]
 rw[run_slice_string_from_if W t _ _ _ ht,if_pos (by rw[hz];omega),Int.toNat_natCast,hz,zbq l n h]
theorem zcv {P:Program} {t:TypeId} (ht:P.underlying t=some .string) (l:List UInt8) (x:Int) (n:Nat) (hx:x=(n:Int)) (h:n<l.length) (W:World) :
 (Instr.index t (.string ⟨l.toArray⟩) (.int .i64 x)).run P W=.ok (.int .u8 (l[n].toNat:Int)) W:=by
 subst hx
 have hz:(ByteArray.mk l.toArray).size=l.length:=by simp[ByteArray.size]
 rw[run_index_string W t _ _ _ ht,dif_pos (by rw[hz];omega)]
 rfl
theorem za0e (x y:Nat) (hx:x<16777216) (hy:y<256):bits BinOp.or IntKind.i64 ((x:Int)*256) (y:Int)=((256*x+y:Nat):Int):=by
 have hj:x*256 ||| y=x*256+y:=nat_join 8 (x*256) y (by omega) (by omega)
 have e:((x:Int)*256)=((x*256:Nat):Int):=by omega
 rw[e]
 show IntKind.i64.wrap ((BitVec.ofInt 64 ((x*256:Nat):Int) ||| BitVec.ofInt 64 (y:Int)).toNat:Int)=_
 rw[BitVec.toNat_or,ofInt_u64 (x*256) (by omega),ofInt_u64 y (by omega),hj]
 simp[IntKind.wrap,IntKind.signed,IntKind.bits];omega
def zb9 (n:Nat) (r:List UInt8):Option (List UInt8 × List UInt8) :=
 match lenOf n r with
 | none=>none
 | some (n',r')=>if r'.length<n'∨60000<n' then none else some (r'.take n',r'.drop n')
theorem zh7 (n:Nat) (r:List UInt8) (h:n≤55):zb9 n r=if r.length<n then none else some (r.take n,r.drop n):=by
 rw[zb9,lenOf,if_pos h]
 by_cases hf:r.length<n
 · rw[if_pos hf];simp only[if_pos (show r.length<n∨60000<n from .inl hf)]
 · rw[if_neg hf];simp only[if_neg (show ¬ (r.length<n∨60000<n) from by omega)]
theorem zh8 (m:Nat) (r:List UInt8) (hm:1≤m):zb9 (55+m) r=if r.length<m∨3<m∨r.head? = some 0 then none else
 if valB (r.take m)≤55∨60000<valB (r.take m)∨(r.drop m).length<valB (r.take m) then none else some ((r.drop m).take (valB (r.take m)),(r.drop m).drop (valB (r.take m))):=by
 rw[zb9,lenOf,if_neg (by omega),show 55+m - 55=m from by omega]
 by_cases h1:r.length<m∨3<m∨r.head? = some 0
 · rw[if_pos h1,if_pos (by rcases h1 with h | h | h <;> simp[h])]
 · rw [if_neg h1]
   by_cases h2:valB (r.take m)≤55
   · rw[if_pos (.inr (.inr (.inr h2))),if_pos (.inl h2)]
   · rw[if_neg (by rintro (h | h | h | h);exact h1 (.inl h);exact h1 (.inr (.inl h));exact h1 (.inr (.inr h));exact h2 h)]
     by_cases h3:60000<valB (r.take m)∨(r.drop m).length<valB (r.take m)
     · simp only[if_pos (show (r.drop m).length<valB (r.take m)∨60000<valB (r.take m) from h3.symm)]
       rw[if_pos (.inr h3)]
     · simp only[if_neg (show ¬ ((r.drop m).length<valB (r.take m)∨60000<valB (r.take m)) from fun h=>h3 h.symm)]
       rw[if_neg (fun h=>h.elim h2 h3)]
def zbh:List UInt8→Bool
 | [c]=>decide (c.toNat<128)
 | _=>false
theorem za0f (n:Nat) (r:List UInt8) (h:n≤r.length):lone n r=zbh (r.take n):=by
 match r,n,h with
 | [],0,_=>rfl
 | [],n+1,h=>simp at h
 | c :: r',0,_=>simp[lone,zbh]
 | c :: r',1,_=>simp[lone,zbh]
 | [c],n+2,h=>simp at h
 | c :: c' :: r',n+2,_=>simp[lone,zbh]
def zc1 (k:Nat) (text:Bool):Option (List UInt8 × List UInt8)→Option (Nat × List UInt8 × List UInt8)
 | none=>none
 | some (bd,rest)=>if (text && zbh bd)=true then none else some (k,bd,rest)
theorem zet (b:UInt8) (r:List UInt8) (h1:¬ b.toNat<128) (h2:b.toNat<192):zr (b :: r)=zc1 1 true (zb9 (b.toNat - 128) r):=by
 rw[zr0 b r h1 h2,zb9]
 cases lenOf (b.toNat - 128) r with
 | none=>rfl
 | some x =>
   obtain⟨n,r'⟩:=x
   by_cases h:r'.length<n∨60000<n
   · simp only[if_pos h,zc1];rw[if_pos (by rcases h with h | h <;> simp[h])]
   · simp only[if_neg h,zc1,Bool.true_and]
     rw[za0f n r' (by omega)]
     by_cases hl:zbh (r'.take n)=true
     · rw[if_pos (.inr (.inr hl)),if_pos hl]
     · rw[if_neg (by simp only[hl,Bool.false_eq_true,or_false];exact h),if_neg hl]
theorem zeu (b:UInt8) (r:List UInt8) (h2:¬ b.toNat<192):zr (b :: r)=zc1 2 false (zb9 (b.toNat - 192) r):=by
 rw[zr1 b r h2,zb9]
 cases lenOf (b.toNat - 192) r with
 | none=>rfl
 | some x =>
   obtain⟨n,r'⟩:=x
   by_cases h:r'.length<n∨60000<n
   · simp only[if_pos h,zc1]
   · simp only[if_neg h,zc1,Bool.false_and,Bool.false_eq_true,if_false]
def za5 (l:List UInt8):List UInt8:=match l with
 | [b]=>if b.toNat<128 then [b] else zae [b] 128
 | l=>zae l 128
def zh9 (l:List UInt8):List UInt8:=if l.length≤60000 then za5 l else []
theorem zr4 (s:ByteArray) (h:s.size=1) (hb:(s[0]'(by omega)).toNat<128):za5 s.data.toList=s.data.toList:=by
 have e:s.data.toList=[s[0]'(by omega)]:=by
  apply List.ext_getElem
  · simpa using h
  · intro i h1 h2
    simp at h2;subst h2;rfl
 rw[e,za5,if_pos hb]
theorem zr5 (s:ByteArray) (h:s.size=1) (hb:¬ (s[0]'(by omega)).toNat<128):za5 s.data.toList=zae s.data.toList 128:=by
 have e:s.data.toList=[s[0]'(by omega)]:=by
  apply List.ext_getElem
  · simpa using h
  · intro i h1 h2
    simp at h2;subst h2;rfl
 rw[e,za5,if_neg hb]
theorem zr6 (l:List UInt8) (h:l.length≠1):za5 l=zae l 128:=by
 match l,h with
 | [],_=>rfl
 | [_],h=>simp at h
 | _ :: _ :: _,_=>rfl
theorem zr7 (x:Nat) (b:UInt8):UInt8.ofNat (256*x+b.toNat)=b:=by
 apply UInt8.toNat_inj.1
 have:=b.toNat_lt
 simp
theorem za0g : ∀ (f : Nat) (q : List UInt8), q.length ≤ f → q.head? ≠ some 0 → numB f (valB q) = q := by
 intro f
 induction f with
 | zero=>intro q h _;have:q=[]:=List.length_eq_zero_iff.1 (by omega);subst this;rfl
 | succ f ih =>
   intro q h hq
   by_cases hn:q=[]
   · subst hn;rfl
   · obtain⟨p,b,rfl⟩:∃ p b,q=p ++ [b]:=⟨q.dropLast,q.getLast hn,(List.dropLast_concat_getLast hn).symm⟩
     have hb:=b.toNat_lt
     rw[zls]
     by_cases hp:p=[]
     · subst hp
       have hb0:b≠0:=fun e=>hq (by simp[e])
       have hb1:b.toNat≠0:=fun e=>hb0 (UInt8.toNat_inj.1 (by simpa using e))
       have e0:valB []=0:=rfl
       rw[e0,numB,if_neg (by omega),show (256*0+b.toNat) / 256=0 from by omega,zh5,zr7]
     · have ih':=ih p (by simp at h;omega) (by
        cases p with
        | nil=>exact absurd rfl hp
        | cons c r=>simpa using hq)
       have hv:valB p≠0:=fun e=>by rw[e,zh5] at ih';exact hp ih'.symm
       rw[numB,if_neg (by omega),show (256*valB p+b.toNat) / 256=valB p from by omega,ih',zr7]
theorem ziv (n:Nat) (h:0<n) (h1:n<65536):valB (numB 8 n)=n∧1≤(numB 8 n).length∧(numB 8 n).length≤2∧(numB 8 n).head?≠some 0:=by
 by_cases hs:n<256
 · rw[zlo n h hs]
   refine⟨by simp[valB];omega,by simp,by simp,fun e=>?_⟩
   simp only[List.head?_cons,Option.some.injEq] at e
   have:=congrArg UInt8.toNat e
   simp at this;omega
 · rw[zlp n (by omega) h1]
   refine⟨by simp[valB];omega,by simp,by simp,fun e=>?_⟩
   simp only[List.head?_cons,Option.some.injEq] at e
   have:=congrArg UInt8.toNat e
   simp at this;omega
theorem zlu (l r:List UInt8):(l ++ r).take l.length=l:=by simp
theorem zlv (l r:List UInt8):(l ++ r).drop l.length=r:=by simp
theorem zr8 (l rest:List UInt8) (h:l.length≤55):zb9 l.length (l ++ rest)=some (l,rest):=by
 rw[zh7 _ _ h,if_neg (by simp),zlu,zlv]
theorem zr9 (l rest:List UInt8) (h:55<l.length) (h1:l.length≤60000):zb9 (55+(numB 8 l.length).length) (numB 8 l.length ++ (l ++ rest))=some (l,rest):=by
 obtain⟨e1,e2,e3,e4⟩:=ziv l.length (by omega) (by omega)
 obtain⟨q,hq⟩:∃ q,q=numB 8 l.length:=⟨_,rfl⟩
 rw[←hq] at e1 e2 e3 e4 ⊢
 have hh:(q ++ (l ++ rest)).head?≠some 0:=by
  cases q with
  | nil=>simp at e2
  | cons c r=>simpa using e4
 rw[zh8 _ _ e2,if_neg (by rintro (x | x | x);simp at x;omega;omega;exact hh x),zlu,zlv,e1,if_neg (by rintro (x | x | x);omega;omega;simp at x;omega),zlu,zlv]
theorem za0h (n : Nat) (r bd rest : List UInt8) (h : zb9 n r = some (bd, rest)) : bd.length ≤ 60000 ∧
 ((bd.length≤55∧n=bd.length∧bd ++ rest=r)∨(55<bd.length∧n=55+(numB 8 bd.length).length∧numB 8 bd.length ++ (bd ++ rest)=r)):=by
 by_cases h55:n≤55
 · rw[zh7 n r h55] at h
   by_cases hf:r.length<n
   · rw[if_pos hf] at h;cases h
   · rw[if_neg hf] at h;cases h
     have:(r.take n).length=n:=by simp;omega
     exact⟨by omega,.inl ⟨by omega,this.symm,List.take_append_drop _ _⟩⟩
 · obtain ⟨m, rfl⟩ : ∃ m, n = 55 + m := ⟨n - 55, by omega⟩
   rw[zh8 m r (by omega)] at h
   by_cases hl:r.length<m∨3<m∨r.head? = some 0
   · rw[if_pos hl] at h;cases h
   · rw [if_neg hl] at h
     by_cases hf:valB (r.take m)≤55∨60000<valB (r.take m)∨(r.drop m).length<valB (r.take m)
     · rw[if_pos hf] at h;cases h
     · rw [if_neg hf] at h; cases h
       have e:((r.drop m).take (valB (r.take m))).length=valB (r.take m):=by rw[List.length_take];omega
       have hh:(r.take m).head?≠some 0:=by
        cases r with
        | nil=>simp
        | cons c r' =>
          obtain⟨m',rfl⟩:∃ m',m=m'+1:=⟨m - 1,by omega⟩
          intro x
          exact hl (.inr (.inr (by simpa using x)))
       have hlm:(r.take m).length=m:=by rw[List.length_take];omega
       have en:numB 8 (valB (r.take m))=r.take m:=za0g 8 _ (by omega) hh
       refine⟨by omega,.inr ⟨by omega,?_,?_⟩⟩
       · rw[e,en,hlm]
       · rw[e,en,List.take_append_drop,List.take_append_drop]
theorem zdk (n:Nat) (h:n<256):(UInt8.ofNat n).toNat=n:=by rw[UInt8.toNat_ofNat'];omega
theorem zra (l rest:List UInt8) (h:l.length≤60000):zr (zae l 192 ++ rest)=some (2,l,rest):=by
 unfold zae
 by_cases hs:l.length≤55
 · rw[if_pos hs,List.cons_append,zeu _ _ (by rw[zdk _ (by omega)];omega),zdk _ (by omega),Nat.add_sub_cancel_left,zr8 l rest hs]
   rfl
 · have hb:=(ziv l.length (by omega) (by omega)).2.2.1
   rw[if_neg hs,List.cons_append,zeu _ _ (by rw[zdk _ (by omega)];omega),zdk _ (by omega),Nat.add_assoc,Nat.add_sub_cancel_left,List.append_assoc,zr9 l rest (by omega) h]
   rfl
theorem zlw (l rest:List UInt8) (h:l.length≤60000):zr (za5 l ++ rest)=some (1,l,rest):=by
 have main:zbh l=false→zr (zae l 128 ++ rest)=some (1,l,rest):=by
  intro hl
  unfold zae
  by_cases hs:l.length≤55
  · rw[if_pos hs,List.cons_append,zet _ _ (by rw[zdk _ (by omega)];omega) (by rw[zdk _ (by omega)];omega),zdk _ (by omega),Nat.add_sub_cancel_left,zr8 l rest hs]
    simp[zc1,hl]
  · have hb:=(ziv l.length (by omega) (by omega)).2.2.1
    rw[if_neg hs,List.cons_append,zet _ _ (by rw[zdk _ (by omega)];omega) (by rw[zdk _ (by omega)];omega),zdk _ (by omega),Nat.add_assoc,Nat.add_sub_cancel_left,List.append_assoc,zr9 l rest (by omega) h]
    simp[zc1,hl]
 match l with
 | []=>exact main rfl
 | [b] =>
   by_cases hb:b.toNat<128
   · have e:za5 [b]=[b]:=if_pos hb
     rw[e]
     show zr (b :: rest)=_
     simp only[zr]
     rw[if_pos hb]
   · have e:za5 [b]=zae [b] 128:=if_neg hb
     rw[e]
     exact main (by simp[zbh];omega)
 | _ :: _ :: _=>exact main rfl
theorem ziw (k':Nat) (t:Bool) (o:Option (List UInt8 × List UInt8)) (k:Nat) (bd more:List UInt8) (ho:zc1 k' t o=some (k,bd,more)):o=some (bd,more)∧k=k'∧(t && zbh bd)=false:=by
 cases o with
 | none=>cases ho
 | some x =>
   obtain⟨p,q⟩:=x
   simp only[zc1] at ho
   by_cases hc:(t && zbh p)=true
   · rw[if_pos hc] at ho;cases ho
   · rw[if_neg hc] at ho;cases ho;exact⟨rfl,rfl,by simpa using hc⟩
theorem zrb (b:UInt8) (n:Nat) (h:n=b.toNat):UInt8.ofNat n=b:=by
 apply UInt8.toNat_inj.1
 have:=b.toNat_lt
 rw[zdk _ (by omega),h]
theorem zrc (b:UInt8) (r bd rest:List UInt8) (h:Nat) (hb:h≤b.toNat) (hd:zb9 (b.toNat - h) r=some (bd,rest)):zae bd h ++ rest=b :: r∧bd.length≤60000:=by
 obtain⟨h1,h2⟩:=za0h _ _ _ _ hd
 refine⟨?_,h1⟩
 rcases h2 with ⟨ha,hn,hr⟩ | ⟨ha,hn,hr⟩
 · rw[zae,if_pos ha,List.cons_append,hr,zrb b _ (by omega)]
 · rw[zae,if_neg (by omega),List.cons_append,List.append_assoc,hr,zrb b _ (by omega)]
theorem zrd (l:List UInt8) (h:zbh l=false):za5 l=zae l 128:=by
 match l,h with
 | [],_=>rfl
 | [b],h=>exact if_neg (by simpa [zbh] using h)
 | _ :: _ :: _,_=>rfl
theorem zre (l v more:List UInt8) (h:zr l=some (1,v,more)):za5 v ++ more=l∧v.length≤60000:=by
 match l,h with
 | [],h=>cases h
 | b :: r, h =>
   by_cases h1:b.toNat<128
   · have e:zr (b :: r)=some (1,[b],r):=by simp only[zr];rw[if_pos h1]
     rw[e] at h;cases h
     exact⟨by simp[za5,h1],by simp⟩
   · by_cases h2:b.toNat<192
     · rw[zet b r h1 h2] at h
       obtain⟨ho,_,hl⟩:=ziw _ _ _ _ _ _ h
       rw[zrd v (by simpa using hl)]
       exact zrc b r v more 128 (by omega) ho
     · rw[zeu b r h2] at h
       obtain⟨_,hk,_⟩:=ziw _ _ _ _ _ _ h
       omega
theorem zrf (l v more:List UInt8) (h:zr l=some (2,v,more)):zae v 192 ++ more=l∧v.length≤60000:=by
 match l,h with
 | [],h=>cases h
 | b :: r, h =>
   by_cases h1:b.toNat<128
   · have e:zr (b :: r)=some (1,[b],r):=by simp only[zr];rw[if_pos h1]
     rw[e] at h;cases h
   · by_cases h2:b.toNat<192
     · rw[zet b r h1 h2] at h
       obtain⟨_,hk,_⟩:=ziw _ _ _ _ _ _ h
       omega
     · rw[zeu b r h2] at h
       obtain⟨ho,_,_⟩:=ziw _ _ _ _ _ _ h
       exact zrc b r v more 192 (by omega) ho
theorem zrg (l:List UInt8) (h:Nat) (hl:l.length<65536):(zae l h).length≤l.length+3:=by
 unfold zae
 by_cases hs:l.length≤55
 · rw[if_pos hs];simp
 · have:=(ziv l.length (by omega) hl).2.2.1
   rw[if_neg hs];simp;omega
theorem za0i (l:List UInt8) (hl:l.length<65536):(za5 l).length≤l.length+3:=by
 by_cases h:zbh l=false
 · rw[zrd l h];exact zrg l 128 hl
 · match l,h with
   | [],h=>simp[zbh] at h
   | [b],h=>simp only[za5];split <;> simp[zae]
   | _ :: _ :: _,h=>simp[zbh] at h
def zk (ls:List (List UInt8)):List Value:=ls.map fun l=>.string ⟨l.toArray⟩
theorem zfg (ls:List (List UInt8)):(zk ls).length=ls.length:=by simp[zk]
theorem zc5 (ls:List (List UInt8)) (l:List UInt8):zk (ls ++ [l])=zk ls ++ [.string ⟨l.toArray⟩]:=by simp[zk]
theorem zha {w:World} {base e n:Nat} {v:Value} {xs:List Value} (h:w.ownsRow base e 1 v n xs) :
 (v=.slice none 0 0∧n=0∧xs=[])∨∃ g cap,v=.slice (some ⟨g,0,none⟩) n cap∧base≤g∧g<w.heap.size∧(∀ j,j<n→w.cell? ⟨g,j,none⟩=xs[j]?)∧(∀ j,w.frozen? ⟨g,j,none⟩=false):=by
 rcases h.2 with ⟨h',h0⟩ | ⟨g,cap,cur,h',hb,hg,_⟩
 · exact .inl ⟨h',h0,List.length_eq_zero_iff.1 (by rw[h.1,h0])⟩
 · subst h'
   exact .inr ⟨g,cap,rfl,hb,(Array.getElem?_eq_some_iff.1 hg).1,fun j hj=>h.cellAt j (by omega),fun j=>h.frozenAt j⟩
theorem zev {w:World} {base e n:Nat} {v:Value} {xs:List Value} (h:w.ownsRow base e 1 v n xs):∃ a m c,v=.slice a m c:=by
 rcases h.2 with ⟨h',h0⟩ | ⟨g,cap,cur,h',_⟩
 · exact⟨_,_,_,h'⟩
 · exact⟨_,_,_,h'⟩
theorem zf {w:World} {base e size n:Nat} {v:Value} {xs:List Value} (h:w.ownsRow base e size v n xs):Hid (w.ownsRow base e size v n xs):=h
def vlen:Value→Nat
 | .slice _ n _=>n
 | _=>0
theorem za0j {w:World} {base e n:Nat} {v:Value} {xs:List Value} (h:w.ownsRow base e 1 v n xs):vlen v=n:=by
 rcases h.2 with ⟨h',h0⟩ | ⟨g,cap,cur,h',_⟩
 · subst h';exact h0.symm
 · subst h';rfl
theorem zhb (ls:List (List UInt8)) (j:Nat) (h:j<ls.length):(zk ls)[j]? = some (.string ⟨ls[j].toArray⟩):=by simp[zk,h]
theorem zgb (l : List UInt8) (k : Nat) (bd more : List UInt8) (h : zr l = some (k, bd, more)) : more.length < l.length ∧ bd.length ≤ l.length := by
 match l,h with
 | [],h=>cases h
 | b :: r, h =>
   by_cases h1:b.toNat<128
   · have e:zr (b :: r)=some (1,[b],r):=by simp only[zr];rw[if_pos h1]
     rw[e] at h;cases h;simp
   · have hbl : ∀ n bd' rest', zb9 n r = some (bd', rest') → rest'.length ≤ r.length ∧ bd'.length ≤ r.length := by
      intro n bd' rest' hb
      by_cases h55:n≤55
      · rw[zh7 n r h55] at hb
        by_cases hf:r.length<n
        · rw[if_pos hf] at hb;cases hb
        · rw[if_neg hf] at hb;cases hb;simp;omega
      · obtain⟨m,rfl⟩:∃ m,n=55+m:=⟨n - 55,by omega⟩
        rw[zh8 m r (by omega)] at hb
        by_cases hl:r.length<m∨3<m∨r.head? = some 0
        · rw[if_pos hl] at hb;cases hb
        · rw[if_neg hl] at hb
          by_cases hf:valB (r.take m)≤55∨60000<valB (r.take m)∨(r.drop m).length<valB (r.take m)
          · rw[if_pos hf] at hb;cases hb
          · rw[if_neg hf] at hb;cases hb;simp;omega
     have hin:∀ k' t o,zc1 k' t o=some (k,bd,more)→o=some (bd,more):=by
      intro k' t o ho
      cases o with
      | none=>cases ho
      | some x =>
        obtain⟨p,q⟩:=x
        simp only[zc1] at ho
        by_cases hc:(t && zbh p)=true
        · rw[if_pos hc] at ho;cases ho
        · rw[if_neg hc] at ho;cases ho;rfl
     by_cases h2:b.toNat<192
     · rw[zet b r h1 h2] at h
       have:=hbl _ _ _ (hin _ _ _ h)
       simp;omega
     · rw[zeu b r h2] at h
       have:=hbl _ _ _ (hin _ _ _ h)
       simp;omega
def zav:Nat→List UInt8→Option (List (List UInt8))
 | _,[]=>some []
 | 0,_ :: _=>none
 | f + 1, b :: r => match zr (b :: r) with
   | none=>none
   | some (_,_,more)=>(zav f more).map fun t=>(b :: r).take ((b :: r).length - more.length) :: t
theorem zhc (f:Nat):zav f []=some []:=by cases f <;> rfl
theorem zlx (f:Nat) (b:UInt8) (r:List UInt8) (h:zr (b :: r)=none):zav f (b :: r)=none:=by
 cases f with
 | zero=>rfl
 | succ f=>simp only[zav,h]
theorem zly (f:Nat) (b:UInt8) (r:List UInt8) (k:Nat) (bd more:List UInt8) (h:zr (b :: r)=some (k,bd,more)) :
 zav (f+1) (b :: r)=(zav f more).map fun t=>(b :: r).take ((b :: r).length - more.length) :: t:=by simp only[zav,h]
def zbi (l:List UInt8):Option (List (List UInt8)):=match zr l with
 | some (2,body,[])=>zav body.length body
 | _=>none
theorem zlz (l:List UInt8) (h:zr l=none):zbi l=none:=by simp only[zbi,h]
theorem zm0 (l:List UInt8) (k:Nat) (bd rest:List UInt8) (h:zr l=some (k,bd,rest)) (hk:k≠2∨rest≠[]):zbi l=none:=by
 simp only[zbi,h]
 rcases hk with hk | hk
 · match k,hk with
   | 0,_=>rfl
   | 1,_=>rfl
   | 2,hk=>exact absurd rfl hk
   | k+3,_=>rfl
 · cases rest with
   | nil=>exact absurd rfl hk
   | cons a r=>split <;> simp_all
theorem zix (l bd:List UInt8) (h:zr l=some (2,bd,[])):zbi l=zav bd.length bd:=by simp only[zbi,h]
def zm1 (w:World) (o:Option (List (List UInt8))) (e:Ending) (w':World):Prop:=match o with
 | none=>e=.returned (.tuple #[.slice none 0 0,.bool false])∧Below w.heap.size w w'
 | some ls=>∃ v,e=.returned (.tuple #[v,.bool true])∧w'.ownsRow w.heap.size 9 1 v ls.length (zk ls)∧Below w.heap.size w w'∧ls.length≤1048576
theorem zhd (l : List UInt8) (k : Nat) (bd rest : List UInt8) (h : zr l = some (k, bd, rest)) : k = 1 ∨ k = 2 := by
 match l,h with
 | [],h=>cases h
 | b :: r, h =>
   by_cases h1:b.toNat<128
   · have e:zr (b :: r)=some (1,[b],r):=by simp only[zr];rw[if_pos h1]
     rw[e] at h;cases h;exact .inl rfl
   · have hin:∀ k' t o,zc1 k' t o=some (k,bd,rest)→k=k':=by
      intro k' t o ho
      cases o with
      | none=>cases ho
      | some x =>
        obtain⟨p,q⟩:=x
        simp only[zc1] at ho
        by_cases hc:(t && zbh p)=true
        · rw[if_pos hc] at ho;cases ho
        · rw[if_neg hc] at ho;cases ho;rfl
     by_cases h2:b.toNat<192
     · rw[zet b r h1 h2] at h;exact .inl (hin _ _ _ h)
     · rw[zeu b r h2] at h;exact .inr (hin _ _ _ h)
def zaq (l:List UInt8):Bool:=match zr l with
 | some (_,_,[])=>true
 | _=>false
theorem zm2 (l:List UInt8) (k:Nat) (bd:List UInt8) (h:zr l=some (k,bd,[])):zaq l=true:=by simp only[zaq,h]
theorem za0k (l:List UInt8) (h:zr l=none):zaq l=false:=by simp only[zaq,h]
theorem za0l (l:List UInt8) (k:Nat) (bd:List UInt8) (a:UInt8) (r:List UInt8) (h:zr l=some (k,bd,a :: r)):zaq l=false:=by simp only[zaq,h]
theorem zrh (ls:List (List UInt8)) (j:Nat) (h:j<ls.length):(ls.take (j+1)).flatten=(ls.take j).flatten ++ ls[j]:=by
 rw[List.take_succ_eq_append_getElem h,List.flatten_append]
 congr 1
 exact List.append_nil _
theorem zm3 (ls:List (List UInt8)) (j:Nat):(ls.take j).flatten.length≤ls.flatten.length:=by
 have:ls.flatten=(ls.take j).flatten ++ (ls.drop j).flatten:=by rw[←List.flatten_append,List.take_append_drop]
 rw[this];simp
theorem zew (ls:List (List UInt8)) (j:Nat) (h:j<ls.length):ls[j].length≤ls.flatten.length:=by
 have:=zm3 ls (j+1)
 rw[zrh ls j h,List.length_append] at this
 omega
def zbl (ls:List (List UInt8)):List UInt8:=if ls.flatten.length≤60000∧ls.all zaq=true then zae ls.flatten 192 else []
theorem ziy (ls:List (List UInt8)) (h:ls.flatten.length≤60000) (hi:ls.all zaq=true):zbl ls=zae ls.flatten 192:=if_pos ⟨h,hi⟩
theorem za0m (ls:List (List UInt8)) (j:Nat) (h:60000<(ls.take j).flatten.length):zbl ls=[]:=if_neg fun hh=>by have:=zm3 ls j;omega
theorem za0n (ls:List (List UInt8)) (j:Nat) (hj:j<ls.length) (h:zaq ls[j]=false):zbl ls=[]:=if_neg fun hh=>by
 have:=List.all_eq_true.1 hh.2 ls[j] (List.getElem_mem _)
 rw[h] at this;cases this
theorem za0o (ls:List (List UInt8)) (j:Nat) (h:j<ls.length) (h0:(ls.take j).all zaq=true) (h1:zaq ls[j]=true):(ls.take (j+1)).all zaq=true:=by
 rw[List.take_succ_eq_append_getElem h,List.all_append,h0];simp[h1]
theorem join_nil (ls:List (List UInt8)):Lib.join ls []=ls.flatten:=by
 unfold Lib.join
 induction ls with
 | nil=>rfl
 | cons a r ih => cases r with
   | nil=>simp[List.intercalate]
   | cons b r=>simp[List.intercalate,List.intersperse] at ih ⊢;exact ih
def laid (ls:List (List UInt8)) (j:Nat):List Value:=zk (ls.take j) ++ List.replicate (ls.length - j) (.string ⟨#[]⟩)
structure RowX (w:World) (base g n cap:Nat) (xs:List Value):Prop where
 len:xs.length=n
 low:base≤g
 lt:g<w.heap.size
 fit:n≤cap
 cells:∀ j,j<n→w.cell? ⟨g,j,none⟩=xs[j]?
 spare:∀ j,n≤j→j<cap→(w.cell? ⟨g,j,none⟩).isSome=true∧w.frozen? ⟨g,j,none⟩=false
theorem RowX.kept {w w':World} {base g n cap:Nat} {xs:List Value} {row:Option Nat} (h:RowX w base g n cap xs) (hg:w.grownBy w' row) (hr:some g≠row):RowX w' base g n cap xs:=by
 have hb:=hg.block g h.lt hr
 refine⟨h.len,h.low,Nat.lt_of_lt_of_le h.lt hg.size,h.fit,fun j hj=>?_,fun j h1 h2=>?_⟩
 · rw[World.cell?_of_block (w:=w) (a:=⟨g,j,none⟩) hb];exact h.cells j hj
 · rw[World.cell?_of_block (w:=w) (a:=⟨g,j,none⟩) hb,World.frozen?_of_block (w:=w) (a:=⟨g,j,none⟩) hb];exact h.spare j h1 h2
theorem RowX.below {w w':World} {base g n cap:Nat} {xs:List Value} (h:RowX w base g n cap xs) (hb:Below w.heap.size w w'):RowX w' base g n cap xs :=
 h.kept (row:=none) ⟨hb.os,hb.tape,hb.output,hb.size,fun k hk _=>hb.block k hk⟩ (by simp)
theorem RowX.alloc {w:World} {base g n cap:Nat} {xs:List Value} (h:RowX w base g n cap xs) (o:Obj):RowX (w.alloc o) base g n cap xs :=
 h.below ((Below.refl _ _).alloc (Nat.le_refl _) _)
theorem za0p {w:World} {base b1 e g n cap:Nat} {xs:List Value} (h:w.ownsRow b1 e 1 (.slice (some ⟨g,0,none⟩) n cap) n xs) (hb:base≤g):RowX w base g n cap xs:=by
 rcases h.2 with ⟨h',_⟩ | ⟨g',cap',cur,h',h1,h2,h3,h4,h5,h6⟩
 · cases h'
 · cases h'
   have hl:=h.1
   refine⟨by omega,hb,(Array.getElem?_eq_some_iff.1 h2).1,h3,fun j hj=>h.cellAt j (by omega),fun j hj1 hj2=>⟨?_,h.frozenAt j⟩⟩
   rw[cell_of_row w g j cur e _ h2,Array.getElem?_eq_getElem (by omega)]
   rfl
theorem zrj (b:Nat):∀ (vs:List Value) (o:Nat) (w:World) (k:Nat),k≠b→(w.setCells b o vs).heap[k]? = w.heap[k]?
 | [],_,_,_,_=>rfl
 | v :: r,o,w,k,h=>by rw[World.setCells,zrj b r (o+1) _ k h];exact heap_setCell_other w _ k v h
theorem setCells_size (b:Nat):∀ (vs:List Value) (o:Nat) (w:World),(w.setCells b o vs).heap.size=w.heap.size∧(w.setCells b o vs).os=w.os∧(w.setCells b o vs).tape=w.tape∧(w.setCells b o vs).output=w.output
 | [],_,_=>⟨rfl,rfl,rfl,rfl⟩
 | v :: r, o, w => by
   rw[World.setCells]
   obtain⟨h1,h2,h3,h4⟩:=setCells_size b r (o+1) (w.setCell ⟨b,o,none⟩ v)
   exact⟨h1.trans (by simp[World.setCell]),h2,h3,h4⟩
theorem zgc {P:Program} (w:World) {ops:Array Oper} {rest:List Oper} {o:Oper} {a:Act} {Q:Exit→Act→World→Prop}
 (hg:o.guard=none) (s x:Operand) (t:TypeId) (hop:o.op=Op.call { callee:=Callee.builtin Builtin.append,args:=#[s,x],argTypes:=#[t,t] })
 (e:TypeId) (i:TypeInfo) (z:Value) (bytes:Nat) (h1:P.underlying t=some (.slice e)) (h2:P.info? e=some i) (h3:i.zero=some z) (h4:i.size=1) (h5:i.bytes=bytes) (h6:z.cells.size=1)
 (base g n cap:Nat) (xs:List Value) (hs:a.eval s=.slice (some ⟨g,0,none⟩) n cap) (hR:RowX w base g n cap xs)
 (ad:Addr) (m c:Nat) (news:List Value) (hx:a.eval x=.slice (some ad) m c) (hn:news.length=m) (hc:∀ j u,news[j]? = some u→w.cell? (ad.add j)=some u) (h1c:∀ u∈news,u.oneCell'=true)
 (hm:0<m) (b1:n+m≤maxLen) (b2:(n+m)*bytes≤140737488355328) (hbw:base≤w.heap.size)
 (k:∀ g' cap' w',RowX w' base g' (n+m) cap' (xs ++ news)→w.grownBy w' (some g)→wpList P ops Q rest (a.put o.dst (.slice (some ⟨g',0,none⟩) (n+m) cap')) w') :
 wpList P ops Q (o :: rest) a w:=by
 refine wpList_append_arg w hg s x t hop e i z 1 bytes h1 h2 h3 h4 h5 h6 (by decide) g 0 n cap xs hs (by rw[hR.len];omega) (fun j u hj=>?_) ad m c news hx (by omega) hc h1c (fun hr j hj=>?_) b1 b2 (fun hr=>?_) (fun hr v' w' ho hgw=>?_)
 · have hj':j<n:=by have:=(List.getElem?_eq_some_iff.1 hj).1;rw[hR.len] at this;exact this
   rw[Nat.zero_add,hR.cells j hj'];exact hj
 · have:=hR.spare (n+j) (by omega) (by omega)
   simpa using this
 · have hsz:=setCells_size g news (0+n*1) w
   have hin:∀ j,j<news.length→(w.cell? ⟨g,0+n*1+j,none⟩).isSome=true:=fun j hj=>by
    have:=(hR.spare (n+j) (by omega) (by omega)).1
    simpa using this
   refine k g cap _ ⟨by rw[List.length_append,hR.len,hn],hR.low,by rw[hsz.1];exact hR.lt,hr,fun j hj=>?_,fun j hj1 hj2=>?_⟩ ⟨hsz.2.1,hsz.2.2.1,hsz.2.2.2,by rw[hsz.1];exact Nat.le_refl _,fun k' _ hk'=>zrj g news _ w k' (fun e=>hk' (by rw[e]))⟩
   · by_cases hjn:j<n
     · rw[World.cell?_setCells_out g news _ w ⟨g,j,none⟩ (fun _ _=>.inl (by simp;omega)),hR.cells j hjn,List.getElem?_append_left (by rw[hR.len];exact hjn)]
     · have:=World.cell?_setCells_in g news (0+n*1) w hin (j - n) (by omega)
       rw[show 0+n*1+(j - n)=j by omega] at this
       rw[this,List.getElem?_append_right (by rw[hR.len];omega),hR.len,List.getElem?_eq_getElem (by omega)]
   · rw[World.frozen?_setCells,World.cell?_setCells_out g news _ w ⟨g,j,none⟩ (fun _ _=>.inr (by simp;omega))]
     exact hR.spare j (by omega) hj2
 · rcases zha ho with ⟨rfl,h0,_⟩ | ⟨g',cap',rfl,hg1,hg2,hg3,hg4⟩
   · omega
   · exact k g' cap' w' (za0p ho (by omega)) ⟨hgw.os,hgw.tape,hgw.output,hgw.size,fun k' hk' _=>hgw.block k' hk' (by simp)⟩
theorem zm4 (W:World) (l:List UInt8) (base cap:Nat) (t:TypeId) (hb:base≤W.heap.size) (hc:l.length≤cap) :
 RowX (W.alloc (.cells (bytesRow ⟨l.toArray⟩ cap) t ((bytesRow ⟨l.toArray⟩ cap).size,(bytesRow ⟨l.toArray⟩ cap).size+1))) base W.heap.size l.length cap (zg l):=by
 have hz:(bytesRow ⟨l.toArray⟩ cap).size=cap:=by simp[bytesRow,ByteArray.size];omega
 have hblk:=heap_alloc_new W (.cells (bytesRow ⟨l.toArray⟩ cap) t ((bytesRow ⟨l.toArray⟩ cap).size,(bytesRow ⟨l.toArray⟩ cap).size+1))
 refine⟨zer l,hb,by simp,hc,fun j hj=>?_,fun j h1 h2=>⟨?_,?_⟩⟩
 · rw[cell_of_row _ _ j _ _ _ hblk,bytesRow_at ⟨l.toArray⟩ cap j (by simpa using hj)]
   simp[zg,hj]
 · rw[cell_of_row _ _ j _ _ _ hblk,Array.getElem?_eq_getElem (by omega)]
   rfl
 · have hjz:j<(bytesRow ⟨l.toArray⟩ cap).size:=by omega
   unfold World.frozen?
   rw[hblk]
   generalize (bytesRow ⟨l.toArray⟩ cap).size=z at hjz ⊢
   simp;omega
theorem za0q {P:Program} {w:World} {base t e d g n cap:Nat} {l:List UInt8} (hs:P.underlying t=some (.slice e)) (he:P.underlying e=some (.int .u8)) (hd:P.underlying d=some .string)
 (h:RowX w base g n cap (zg l)):(convert t d (.slice (some ⟨g,0,none⟩) n cap)).run P w=.ok (.string ⟨l.toArray⟩) w:=by
 have hn:l.length=n:=by rw[←zer l];exact h.len
 subst hn
 refine run_convert_bytes_back w t d e ⟨g,0,none⟩ cap l hs he hd (fun j hj=>?_)
 rw[zg9,h.cells j hj]
 simp[zg,hj]
end Go.Proofs.YtiadimhoolekbaaGreatDoor
