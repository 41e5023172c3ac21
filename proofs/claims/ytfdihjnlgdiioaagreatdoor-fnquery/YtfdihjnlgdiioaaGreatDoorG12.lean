import Derived.Test.YtfdihjnlgdiioaaGreatDoorG11
import Derived.Deep.LoopGhost
namespace Go.Proofs.YtfdihjnlgdiioaaGreatDoor.dB
open Go.ChangeShapes Go.WideShapes Go.ChangeAt Go.RowKit
set_option linter.unusedVariables false
set_option linter.unusedSimpArgs false
def oO (n:Nat):Nat→ByteArray→ByteArray
 | 0,s=>s
 | f+1,s=>if s.size * 2≤n then oO n f (s++s) else s
theorem BP {n f:Nat} {s:ByteArray} (h:¬s.size * 2≤n):oO n f s=s:=by
 cases f with
 | zero=>rfl
 | succ f=>exact if_neg h
theorem BQ {n f:Nat} {s:ByteArray} (h:s.size * 2≤n):oO n (f+1) s=oO n f (s++s):=if_pos h
theorem BR (n:Nat):∀(f:Nat) (s:ByteArray),s.size≤(oO n f s).size∧(oO n f s).size≤max n s.size
 | 0,s=>⟨aS _,Nat.le_max_right ..⟩
 | f+1,s=>by
  by_cases h:s.size * 2≤n
  ·rw[BQ h]
   have:=BR n f (s++s)
   rw[ByteArray.size_append] at this
   refine⟨by omega,?_⟩
   have h2:=this.2
   omega
  ·rw[BP h]
   exact⟨aS _,Nat.le_max_right ..⟩
def oP (b:ByteArray):Nat→Nat→ByteArray
 | 0,_=>⟨#[]⟩
 | f+1,n=>if n=0 then ⟨#[]⟩ else if (oO n 64 b).size<n then oO n 64 b++oP b f (n - (oO n 64 b).size) else oO n 64 b
theorem nH (b:ByteArray):∀(f n:Nat),(oP b f n).size≤n+b.size
 | 0,n=>eH _
 | f+1,n=>by
  unfold oP
  by_cases h0:n=0
  ·rw[if_pos h0];exact eH _
  ·rw[if_neg h0]
   have h1:=BR n 64 b
   split
   ·rw[ByteArray.size_append]
    have:=nH b f (n - (oO n 64 b).size)
    omega
   ·have:=h1.2
    omega
set_option maxRecDepth 100000 in
set_option maxHeartbeats 2000000 in
theorem Vm (b:ByteArray) (hb1:1≤b.size) (hb2:b.size≤100):∀(f n:Nat),n<f→n≤100000→∀w:World,
  Calls Tryz.prog 52 #[.int .i64 (n:Int),.string b] w fun e w'=>e=.returned (.string (oP b f n))∧w'=w:=by
 intro f
 induction f with
 | zero=>intro n h;omega
 | succ f ih =>
  intro n hnf hn w
  have HIH:=hide ih
  clear ih
  obtain⟨r,hr⟩:∃r,oP b (f+1) n=r:=⟨_,rfl⟩
  have HR:=hide hr
  rw[hr]
  unfold oP at HR
  clear hr
  by_cases h0:n=0
  ·subst h0
   have HX:Hid (r=⟨#[]⟩):=by have:=HR.out;rw[if_pos rfl] at this;exact this.symm
   go_enter Tryz.func52,Tryz.ntmps52
   go_wp2_with fail
   go_loopg [5] 0 (fun q v5 wr=>v5=.string ⟨#[]⟩∧wr=w)
   case atStart=>exact⟨rfl,rfl⟩
   case round =>
    obtain⟨rfl,rfl⟩:=hrel
    go_wp2_with fail
    go_ret
    exact⟨by rw[HX.out];rfl,rfl⟩
  ·have hpos:(0:Int)<(n:Int):=by omega
   rw[if_neg h0] at HR
   obtain⟨G,hG⟩:∃g,oO n 64 b=g:=⟨_,rfl⟩
   have hgz:=BR n 64 b
   rw[hG] at HR hgz
   have HG:=hide hG
   have abr:n<b.size * 2 ^ 64:=by
    have:1 * 2 ^ 64≤b.size * 2 ^ 64:=Nat.mul_le_mul_right _ hb1
    omega
   have HPW:=hide abr
   clear hG h0 abr
   go_enter Tryz.func52,Tryz.ntmps52
   have hd:decide (0<n)=true:=decide_eq_true (by omega)
   go_wp2_with fail
   (try rw[hd])
   go_loopg [5] 64 (fun q v5 wr=>∃s:ByteArray,v5=.string s∧wr=w∧oO n q s=G∧n<s.size * 2 ^ q∧1≤s.size∧s.size≤100000)
   case atStart=>exact⟨b,rfl,rfl,HG.out,HPW.out,hb1,by omega⟩
   case round =>
    obtain⟨s,rfl,hw,hg,hq,hs1,hs2⟩:=hrel
    rw[hw]
    clear hw
    by_cases hc:s.size * 2≤n
    ·have hci:(s.size:Int) * 2≤(n:Int):=by omega
     have HS:Hid (∃q',gk=q'+1∧oO n q' (s++s)=G∧n<(s++s).size * 2 ^ q'):=by
      cases gk with
      | zero=>simp at hq;omega
      | succ q' =>
       refine⟨q',rfl,?_,?_⟩
       ·rw[←hg];exact(BQ hc).symm
       ·rw[ByteArray.size_append];rw[Nat.pow_succ] at hq
        have e:(s.size+s.size) * 2 ^ q'=s.size * (2 ^ q' * 2):=by rw[Nat.add_mul,←Nat.mul_assoc];omega
        rw[e];exact hq
     have hz2:(s++s).size=s.size+s.size:=ByteArray.size_append
     clear hg hq
     obtain⟨q',rfl,hg',hq'⟩:=HS.out
     have lZ:Hid (∃t:ByteArray,Value.string (s++s)=.string t∧w=w∧oO n q' t=G∧n<t.size * 2 ^ q'∧1≤t.size∧t.size≤100000):=⟨s++s,rfl,rfl,hg',hq',by omega,by omega⟩
     clear hg' hq' HS hz2
     go_wp2_with fail
     go_roundg q'
     case measure=>omega
     case rel =>
      obtain⟨t,q1,_,q2,q3,q4,q5⟩:=lZ.out
      exact⟨t,q1,rfl,q2,q3,q4,q5⟩
    ·have hci:¬(s.size:Int) * 2≤(n:Int):=by omega
     have hGs:G=s:=by rw[←hg];exact BP hc
     clear hg hq
     subst hGs
     by_cases hlt:G.size<n
     ·have YO:(G.size:Int)<(n:Int):=by omega
      obtain⟨n2,hn2⟩:∃k,n - G.size=k:=⟨_,rfl⟩
      rw[if_pos hlt,hn2] at HR
      have agC:(n:Int) - (G.size:Int)=(n2:Int):=by omega
      have HI:=hide (HIH.out n2 (by omega) (by omega) w)
      have hz:=nH b f n2
      obtain⟨t,ht⟩:∃t,oP b f n2=t:=⟨_,rfl⟩
      rw[ht] at HI HR hz
      clear hn2 ht
      go_wp2_with fail
      refine HI.out.mono ?_
      rintro e y ⟨rfl,hy⟩
      (try rw[hy])
      clear hy y
      go_wp2_with fail
      go_ret
      exact⟨by rw[←HR.out];rfl,rfl⟩
     ·have YO:¬(G.size:Int)<(n:Int):=by omega
      rw[if_neg hlt] at HR
      go_wp2_with fail
      go_ret
      exact⟨by rw[←HR.out];rfl,rfl⟩
theorem oQ (b:ByteArray) (hb1:1≤b.size) (hb2:b.size≤100) (n:Nat) (hn:n≤100000) (w:World) :
  Calls Tryz.prog 52 #[.int .i64 (n:Int),.string b] w fun e w'=>e=.returned (.string (oP b (n+1) n))∧w'=w:=Vm b hb1 hb2 (n+1) n (by omega) hn w
def IV:List ByteArray:=[⟨#[116,49]⟩,⟨#[116,50]⟩,⟨#[116,51]⟩,⟨#[84,124,52]⟩,⟨#[116,49]⟩]
def vQ (cs:List UInt8) (p:Nat):ByteArray:=IV.getD (tk cs p 5) ⟨#[]⟩
theorem xM (cs:List UInt8) (p:Nat):(vQ cs p).size≤3:=by
 unfold vQ
 rw[List.getD_eq_getElem?_getD]
 by_cases h:tk cs p 5<IV.length
 ·rw[List.getElem?_eq_getElem h]
  exact(by decide:∀x∈IV,x.size≤3) _ (List.getElem_mem h)
 ·rw[List.getElem?_eq_none (by omega)];exact eH _
def sw (cs:List UInt8) (p:Nat):ByteArray :=
 if tk cs p 8=0 then ⟨#[]⟩ else if tk cs p 8=1 then ((⟨#[120,124,94]⟩++⟨#[UInt8.ofNat 92]⟩)++⟨#[126,38]⟩)++bR (tk cs (p+1) 60)
 else if tk cs p 8=2 then oP ⟨#[119]⟩ (tk cs (p+1) 60+1) (tk cs (p+1) 60) else ⟨#[113]⟩++bR (tk cs (p+1) 60)
theorem ji (u:Nat) (h:u≤1000):(bR u).size≤10:=by
 have h3:=AP 3 u (by omega)
 show (Lib.decDigits u).toArray.size≤10
 simp
 omega
theorem BS (cs:List UInt8) (p:Nat):(sw cs p).size≤100:=by
 have h1:=su cs (p+1) 60 59 (by decide)
 have h2:=ji (tk cs (p+1) 60) (by omega)
 unfold sw
 split
 ·exact eH _
 ·split
  ·rw[ByteArray.size_append,ByteArray.size_append,ByteArray.size_append]
   have e1:(⟨#[120,124,94]⟩:ByteArray).size=3:=rfl
   have e2:(⟨#[UInt8.ofNat 92]⟩:ByteArray).size=1:=rfl
   have e3:(⟨#[126,38]⟩:ByteArray).size=2:=rfl
   omega
  ·split
   ·have:=nH ⟨#[119]⟩ (tk cs (p+1) 60+1) (tk cs (p+1) 60)
    have e1:(⟨#[119]⟩:ByteArray).size=1:=rfl
    omega
   ·rw[ByteArray.size_append]
    have e1:(⟨#[113]⟩:ByteArray).size=1:=rfl
    omega
set_option maxRecDepth 100000 in
set_option maxHeartbeats 4000000 in
theorem zN (cs:List UInt8) (v:Value) (p:Nat) (w:World) {lo:Nat} (hv:iU lo w v cs) (hl:cs.length≤1048576) (hp:p≤4000000) :
  Calls Tryz.prog 50 #[v,.int .i64 (p:Int)] w fun e w'=>e=.returned (.tuple #[.string (vQ cs p),.int .i64 ((p+1:Nat):Int)])∧Below w.heap.size w w':=by
 have HT1:=hide (fJ cs v p 5 w hv hl (by omega) (by decide))
 have hlt:=jK cs p 5 (by decide)
 obtain⟨aa,cap,rfl,_⟩:=fO hv
 obtain⟨r,hr⟩:∃r,vQ cs p=r:=⟨_,rfl⟩
 have HB:Hid (∀o,Below w.heap.size w (w.alloc o)):=fun o=>(Below.refl _ _).alloc (aS _) o
 have hr':IV.getD (tk cs p 5) ⟨#[]⟩=r:=hr
 rw[hr]
 obtain⟨a,ha⟩:∃a,tk cs p 5=a:=⟨_,rfl⟩
 rw[ha] at HT1 hlt hr'
 have hc:(w.alloc (.cells #[.string ⟨#[116,49]⟩,.string ⟨#[116,50]⟩,.string ⟨#[116,51]⟩,.string ⟨#[84,124,52]⟩,.string ⟨#[116,49]⟩] 9)).cell? ⟨w.heap.size,a,none⟩=some (.string r):=by
  rw[←hr']
  rcases(by omega:a=0∨a=1∨a=2∨a=3∨a=4) with rfl|rfl|rfl|rfl|rfl <;> simp[IV]
 have hai:(a:Int)<5:=by omega
 obtain⟨p1,hp1⟩:∃q,p+1=q:=⟨_,rfl⟩
 rw[hp1] at HT1 ⊢
 clear hv hr hr' ha hlt hp1
 go_enter Tryz.func50,Tryz.ntmps50
 go_wp2_with fail
 refine HT1.out.mono ?_
 rintro e w2 ⟨rfl,hw2⟩
 rw[hw2]
 clear hw2 w2
 go_wp2_with fail
 go_ret2
 exact⟨rfl,HB.out _⟩
set_option maxRecDepth 100000 in
set_option maxHeartbeats 4000000 in
theorem zO (cs:List UInt8) (v:Value) (p:Nat) (w:World) {lo:Nat} (hv:iU lo w v cs) (hl:cs.length≤1048576) (hp:p≤4000000) :
  Calls Tryz.prog 51 #[v,.int .i64 (p:Int)] w fun e w'=>e=.returned (.tuple #[.string (sw cs p),.int .i64 ((p+2:Nat):Int)])∧Below w.heap.size w w':=by
 have HT1:=hide (fJ cs v p 8 w hv hl (by omega) (by decide))
 have HT2:=hide (fJ cs v (p+1) 60 w hv hl (by omega) (by decide))
 obtain⟨aa,cap,rfl,_⟩:=fO hv
 have hlt:=jK cs p 8 (by decide)
 have hlt2:=jK cs (p+1) 60 (by decide)
 obtain⟨r,hr⟩:∃r,sw cs p=r:=⟨_,rfl⟩
 rw[hr]
 unfold sw at hr
 obtain⟨a,ha⟩:∃a,tk cs p 8=a:=⟨_,rfl⟩
 obtain⟨b,hb⟩:∃a,tk cs (p+1) 60=a:=⟨_,rfl⟩
 rw[ha] at HT1 hlt hr
 rw[hb] at HT2 hlt2 hr
 have K4:=hide (fun W=>nG b W (by omega))
 have jo:=hide (fun W=>Frame.tV 92 W (by decide) (by decide))
 have Ah:=hide (fun W=>oQ ⟨#[119]⟩ (by decide) (by decide) b (by omega) W)
 have hds:=ji b (by omega)
 obtain⟨dt,hdt⟩:∃t,bR b=t:=⟨_,rfl⟩
 rw[hdt] at K4 hr hds
 have e1:((p+2:Nat):Int)=((p+1+1:Nat):Int):=by omega
 rw[e1]
 obtain⟨p1,hp1⟩:∃q,p+1=q:=⟨_,rfl⟩
 rw[hp1] at HT1 HT2 ⊢
 obtain⟨p2,hp2⟩:∃q,p1+1=q:=⟨_,rfl⟩
 rw[hp2] at HT2 ⊢
 have HB0:Hid (Below w.heap.size w w):=Below.refl _ _
 clear hv ha hb hdt e1 hp1 hp2
 by_cases h0:a=0
 ·rw[if_pos h0] at hr
  have h0b:((a:Int) == 0)=true:=by simp;omega
  have HR:=hide hr
  clear h0 hr
  go_enter Tryz.func51,Tryz.ntmps51
  go_wp2_with fail
  refine HT1.out.mono ?_
  rintro e w2 ⟨rfl,hw2⟩
  rw[hw2]
  clear hw2 w2
  go_wp2_with fail
  refine HT2.out.mono ?_
  rintro e w2 ⟨rfl,hw2⟩
  rw[hw2]
  clear hw2 w2
  go_wp2_with fail
  go_ret2
  exact⟨by rw[←HR.out];rfl,HB0.out⟩
 rw[if_neg h0] at hr
 have h0b:((a:Int) == 0)=false:=by simp;omega
 by_cases h1:a=1
 ·rw[if_pos h1] at hr
  have h1b:((a:Int) == 1)=true:=by simp;omega
  have HR:=hide hr
  clear h0 h1 hr
  go_enter Tryz.func51,Tryz.ntmps51
  go_wp2_with fail
  refine HT1.out.mono ?_
  rintro e w2 ⟨rfl,hw2⟩
  rw[hw2]
  clear hw2 w2
  go_wp2_with fail
  refine HT2.out.mono ?_
  rintro e w2 ⟨rfl,hw2⟩
  rw[hw2]
  clear hw2 w2
  go_wp2_with fail
  refine(jo.out _).mono ?_
  rintro e w2 ⟨rfl,hb2⟩
  have HB2:=hide hb2
  clear hb2
  go_wp2_with fail
  refine(K4.out _).mono ?_
  rintro e w3 ⟨rfl,hb3⟩
  have HB3:=hide (aj hb3 HB2.out)
  clear hb3
  go_wp2_with fail
  go_ret2
  exact⟨by rw[←HR.out];rfl,HB3.out⟩
 rw[if_neg h1] at hr
 have h1b:((a:Int) == 1)=false:=by simp;omega
 by_cases h2:a=2
 ·rw[if_pos h2] at hr
  have h2b:((a:Int) == 2)=true:=by simp;omega
  have HR:=hide hr
  clear h0 h1 h2 hr
  go_enter Tryz.func51,Tryz.ntmps51
  go_wp2_with fail
  refine HT1.out.mono ?_
  rintro e w2 ⟨rfl,hw2⟩
  rw[hw2]
  clear hw2 w2
  go_wp2_with fail
  refine HT2.out.mono ?_
  rintro e w2 ⟨rfl,hw2⟩
  rw[hw2]
  clear hw2 w2
  go_wp2_with fail
  refine(Ah.out _).mono ?_
  rintro e w2 ⟨rfl,hw2⟩
  rw[hw2]
  clear hw2 w2
  rw[HR.out]
  go_wp2_with fail
  go_ret2
  exact⟨rfl,HB0.out⟩
 rw[if_neg h2] at hr
 have h2b:((a:Int) == 2)=false:=by simp;omega
 have HR:=hide hr
 clear h0 h1 h2 hr
 go_enter Tryz.func51,Tryz.ntmps51
 go_wp2_with fail
 refine HT1.out.mono ?_
 rintro e w2 ⟨rfl,hw2⟩
 rw[hw2]
 clear hw2 w2
 go_wp2_with fail
 refine HT2.out.mono ?_
 rintro e w2 ⟨rfl,hw2⟩
 rw[hw2]
 clear hw2 w2
 go_wp2_with fail
 refine(K4.out _).mono ?_
 rintro e w3 ⟨rfl,hb3⟩
 have HB3:=hide hb3
 clear hb3
 go_wp2_with fail
 go_ret2
 exact⟨by rw[←HR.out];rfl,HB3.out⟩
theorem Wr.len {B W R:List UInt8} (h:Wr B W R) {n:Nat} (hn:W.length≤n):R.length≤B.length+n:=by
 have:=h.le
 rw[List.length_append] at this
 omega
theorem IW {α:Type} (f:α→Nat) (xs:List α) (k:Nat) (h:k<xs.length):f xs[k]≤sumOf f xs:=by
 have h1:=Hq f xs k h
 have h2:=FI f xs (k+1)
 omega
theorem ET {α:Type} (sep:UInt8) (f:α→List UInt8) (xs:List α) (k:Nat):(joined sep f (xs.take k)).length≤(joined sep f xs).length :=
 nZ (fun p=>(if p.2=0 then [] else [sep])++f p.1) xs k
set_option maxRecDepth 100000 in
set_option maxHeartbeats 1000000 in
theorem xO (base:Nat) (bs:List UInt8) (x:lW) (vx v:Value) (w0 w:World) (hb0:w0.heap.size≤base) (hbel:Below base w0 w) {lo:Nat} (hx:bq lo w0 vx x)
  (hown:Buf base w v bs) (hbase:base≤w.heap.size) (hl:bs.length+3 * iw x≤17592186044416) :
  Calls Tryz.prog 123 #[.agg #[vx],v] w fun e w'=>∃u R,e=.returned u∧Wr bs (iY x) R∧Buf base w' u R∧fQ w v w' u:=by
 obtain⟨i0,hi,hz0,hz1,hz2⟩:=oD
 have hlx:=hx.1
 obtain⟨a,cap,rfl,hc⟩:=hx.form
 have HC:=hide hc
 have hop:=hown.own
 clear hc hx
 have h94:((({ data:=#[124,94,126,92,38] }:ByteArray)[1].toNat:Nat):Int)=94:=rfl
 have HRW:Hid (iY x=joined 94 (fun c=>dR c.data.toList) x):=rfl
 have hrl:=MH x
 have FR:Hid (∀wX vX,fQ w v wX vX→Below base w0 wX):=fun wX vX hg=>hbel.trans (hg.below hop hbase)
 go_enter Tryz.func123,Tryz.ntmps123
 go_wp2_with fail
 go_loopg [1,10] x.length (fun n v1 i wr=>∃(k:Nat) (R:List UInt8),k≤x.length∧n=x.length - k∧i=.int .i64 k∧Wr bs (joined 94 (fun c=>dR c.data.toList) (x.take k)) R∧Buf base wr v1 R∧fQ w v wr v1)
 case atStart=>exact⟨0,bs,eH _,by simp,rfl,by simpa [joined] using Wr.nil bs,hown.alloc _,(fQ.refl w v).alloc _⟩
 case round =>
  obtain⟨k,R,hk,rfl,rfl,hW,hbuf,hg⟩:=hrel
  obtain⟨W1,rfl⟩:∃x,x=wr:=⟨_,rfl⟩
  have HW:=hide hW
  have hRl:=hW.len (ET 94 (fun c:ByteArray=>dR c.data.toList) x k)
  clear hW
  have hz:base≤W1.heap.size:=Nat.le_trans hbase hg.1.size
  have hb1:=FR.out _ _ hg
  by_cases hlt:k<x.length
  ·obtain⟨b,off,rfl,_,hbl,hc0,hs0⟩:=HC.out k hlt
   have hcell:W1.cell? ⟨b,off+k,none⟩=some (.string x[k]):=by rw[hb1.cell (p:=⟨b,off+k,none⟩) (by show b<base;omega)];simpa using hc0
   have HS:Hid (joined 94 (fun c:ByteArray=>dR c.data.toList) (x.take (k+1))=joined 94 (fun c:ByteArray=>dR c.data.toList) (x.take k)++(sp 94 k++dR x[k].data.toList)):=nu 94 _ x k hlt
   have nC:Hid (R.length+3 * x[k].size+1≤70368744177664):=by
    have h1:(iY x).length=(joined 94 (fun c=>dR c.data.toList) x).length:=rfl
    have h2:=IW pU x k hlt
    unfold pU at h2
    unfold iw aH pU at hl hrl
    show R.length+3 * x[k].size+1≤70368744177664
    omega
   clear hc0
   by_cases hk0:k=0
   ·have hk':¬(0:Int)<(k:Int):=by omega
    have HD:Hid (sp 94 k=[]):=if_pos hk0
    clear hk0
    go_wp2_with fail
    refine(vP base R x[k] _ _ hbuf hz (by have:=nC.out;omega)).mono ?_
    rintro e w2 ⟨u,R2,rfl,hW2,hu,hg2⟩
    have HW2:=hide hW2
    clear hW2
    go_wp2_with fail
    go_roundg (x.length - (k+1))
    case rel=>exact⟨k+1,R2,by omega,rfl,by go_num,by rw[HS.out,HD.out];exact HW.out.trans HW2.out,hu,hg.trans hg2⟩
    case measure=>omega
   ·have hk':(0:Int)<(k:Int):=by omega
    have HD:Hid (sp 94 k=[94]):=if_neg hk0
    clear hk0
    have hRm:R.length+1≤70368744177664:=by have:=nC.out;omega
    go_wp2_with (first
     | (at_builtin;refine wpList_append_own_at _ rfl _ _ 22 rfl base 5 i0 (.int .u8 0) 1 1 Tryz.underlying22 hi hz0 hz1 hz2 rfl (by decide) _ _ _ rfl (World.ownsRow.alloc hbuf _) ⟨W1.heap.size,0,none⟩ 1 1 [.int .u8 94] rfl rfl ?c1 ?c2 ?c3 ?c4 ?c5 ?_)
     | fail)
    case c1=>exact gH _ _ _
    case c2=>exact oF _
    case c3=>unfold maxLen;omega
    case c4=>omega
    case c5=>simp;omega
    intro v' w' hown' hgrow hnil hat
    have RR:=Buf.zG (bs:=R) 94 94 (by decide) _ hg (by first|rfl|simp|(simp;omega)) hown' hgrow hat
    clear hown' hgrow hnil hat
    obtain⟨zH,hR2⟩:=RR
    have hz2:base≤w'.heap.size:=Nat.le_trans hbase hR2.1.size
    go_wp2_with fail
    refine(vP base (R++[94]) x[k] _ _ zH hz2 (by have:=nC.out;simp;omega)).mono ?_
    rintro e w2 ⟨u,R2,rfl,hW2,hu,hg2⟩
    have HW2:=hide hW2
    clear hW2
    go_wp2_with fail
    go_roundg (x.length - (k+1))
    case rel=>exact⟨k+1,R2,by omega,rfl,by go_num,by rw[HS.out,HD.out];exact HW.out.trans ((Wr.full R [94]).trans HW2.out),hu,hR2.trans hg2⟩
    case measure=>omega
  ·go_wp2_with fail
   go_ret
   exact⟨_,_,rfl,by rw[HRW.out];have:=HW.out;rwa [List.take_of_length_le (by omega)] at this,hbuf,hg⟩
set_option maxRecDepth 100000 in
set_option maxHeartbeats 1000000 in
theorem BU (base:Nat) (bs:List UInt8) (x:Field) (vx v:Value) (w0 w:World) (hb0:w0.heap.size≤base) (hbel:Below base w0 w) {lo:Nat} (hx:gL lo w0 vx x)
  (hown:Buf base w v bs) (hbase:base≤w.heap.size) (hl:bs.length+3 * aF x≤4398046511104) :
  Calls Tryz.prog 91 #[.agg #[vx],v] w fun e w'=>∃u R,e=.returned u∧Wr bs (iE x) R∧Buf base w' u R∧fQ w v w' u:=by
 obtain⟨i0,hi,hz0,hz1,hz2⟩:=oD
 have hlx:=hx.1
 obtain⟨a,cap,rfl,hc⟩:=hx.form
 have HC:=hide hc
 have hop:=hown.own
 clear hc hx
 have agD:((({ data:=#[124,94,126,92,38] }:ByteArray)[2].toNat:Nat):Int)=126:=rfl
 have HRW:Hid (iE x=joined 126 iY x):=rfl
 have hrl:=EA x
 have FR:Hid (∀wX vX,fQ w v wX vX→Below base w0 wX):=fun wX vX hg=>hbel.trans (hg.below hop hbase)
 go_enter Tryz.func91,Tryz.ntmps91
 go_wp2_with fail
 go_loopg [1,10] x.length (fun n v1 i wr=>∃(k:Nat) (R:List UInt8),k≤x.length∧n=x.length - k∧i=.int .i64 k∧Wr bs (joined 126 iY (x.take k)) R∧Buf base wr v1 R∧fQ w v wr v1)
 case atStart=>exact⟨0,bs,eH _,by simp,rfl,by simpa [joined] using Wr.nil bs,hown.alloc _,(fQ.refl w v).alloc _⟩
 case round =>
  obtain⟨k,R,hk,rfl,rfl,hW,hbuf,hg⟩:=hrel
  obtain⟨W1,rfl⟩:∃x,x=wr:=⟨_,rfl⟩
  have HW:=hide hW
  have hRl:=hW.len (ET 126 iY x k)
  clear hW
  have hz:base≤W1.heap.size:=Nat.le_trans hbase hg.1.size
  have hb1:=FR.out _ _ hg
  by_cases hlt:k<x.length
  ·obtain⟨b,off,rfl,_,hbl,ve,hc0,hel⟩:=HC.out k hlt
   obtain⟨a5,cap5,rfl,_⟩:=hel.form
   have hcell:W1.cell? ⟨b,off+k,none⟩=some (.slice a5 x[k].length cap5):=by rw[hb1.cell (p:=⟨b,off+k,none⟩) (by show b<base;omega)];simpa using hc0
   have HS:Hid (joined 126 iY (x.take (k+1))=joined 126 iY (x.take k)++(sp 126 k++iY x[k])):=nu 126 _ x k hlt
   have nC:Hid (R.length+3 * iw x[k]+1≤17592186044416):=by
    have h1:(iE x).length=(joined 126 iY x).length:=rfl
    have h2:=IW iw x k hlt
    unfold aF aH at hl hrl
    show R.length+3 * iw x[k]+1≤17592186044416
    omega
   clear hc0
   by_cases hk0:k=0
   ·have hk':¬(0:Int)<(k:Int):=by omega
    have HD:Hid (sp 126 k=[]):=if_pos hk0
    clear hk0
    go_wp2_with fail
    refine(xO base R x[k] _ _ w0 _ hb0 (hb1.alloc hz _) hel (hbuf.alloc _) (by simp;omega) (by have:=nC.out;omega)).mono ?_
    rintro e w2 ⟨u,R2,rfl,hW2,hu,hg2⟩
    have HW2:=hide hW2
    clear hW2
    go_wp2_with fail
    go_roundg (x.length - (k+1))
    case rel=>exact⟨k+1,R2,by omega,rfl,by go_num,by rw[HS.out,HD.out];exact HW.out.trans HW2.out,hu,(hg.alloc _).trans hg2⟩
    case measure=>omega
   ·have hk':(0:Int)<(k:Int):=by omega
    have HD:Hid (sp 126 k=[126]):=if_neg hk0
    clear hk0
    have hRm:R.length+1≤17592186044416:=by have:=nC.out;omega
    have hne:=hbuf.lt (Nat.le_refl W1.heap.size)
    have Rb:=hbuf.alloc (.cells #[.slice a5 x[k].length cap5] 60)
    have hg1:=hg.alloc (.cells #[.slice a5 x[k].length cap5] 60)
    clear hbuf hg
    go_wp2_with (first
     | (at_builtin;refine wpList_append_own_at _ rfl _ _ 22 rfl base 5 i0 (.int .u8 0) 1 1 Tryz.underlying22 hi hz0 hz1 hz2 rfl (by decide) _ _ _ rfl (World.ownsRow.alloc Rb _) ⟨W1.heap.size+1,0,none⟩ 1 1 [.int .u8 126] rfl rfl ?c1 ?c2 ?c3 ?c4 ?c5 ?_)
     | fail)
    case c1=>have:=gH (W1.alloc (.cells #[.slice a5 x[k].length cap5] 60)) (.int .u8 126) 5;simpa using this
    case c2=>exact oF _
    case c3=>unfold maxLen;omega
    case c4=>omega
    case c5=>simp;omega
    intro v' w' hown' hgrow hnil hat
    have RR:=Buf.zG (bs:=R) 126 126 (by decide) _ hg1 (by first|rfl|simp|(simp;omega)) hown' hgrow (by simpa using hat)
    have dP:w'.cell? ⟨W1.heap.size,0,none⟩=some (.slice a5 x[k].length cap5):=by
     rw[World.cell?_of_block (hgrow.block W1.heap.size (by simp;omega) (fun e=>hne e.symm)),World.cell?_of_block (Deep.blk_alloc_lt _ _ _ (by simp))];simp
    clear hown' hgrow hnil hat
    obtain⟨zH,hR2⟩:=RR
    have hz2:base≤w'.heap.size:=Nat.le_trans hbase hR2.1.size
    have HB:=hide (FR.out _ _ hR2)
    go_wp2_with fail
    refine(xO base (R++[126]) x[k] _ _ w0 _ hb0 HB.out hel zH hz2 (by have:=nC.out;simp;omega)).mono ?_
    rintro e w2 ⟨u,R2,rfl,hW2,hu,hg2⟩
    have HW2:=hide hW2
    clear hW2
    go_wp2_with fail
    go_roundg (x.length - (k+1))
    case rel=>exact⟨k+1,R2,by omega,rfl,by go_num,by rw[HS.out,HD.out];exact HW.out.trans ((Wr.full R [126]).trans HW2.out),hu,hR2.trans hg2⟩
    case measure=>omega
  ·go_wp2_with fail
   go_ret
   exact⟨_,_,rfl,by rw[HRW.out];have:=HW.out;rwa [List.take_of_length_le (by omega)] at this,hbuf,hg⟩
def dm (b:Bool):List UInt8:=if b=true then [124,94,126,92,38] else []
def tZ (x:Seg):List UInt8:=x.name.data.toList++dm (ig x.name)++bT x.fields++[13]
theorem Ai (xs:List Field) (k:Nat):(bT (xs.take k)).length≤(bT xs).length:=by
 unfold bT
 conv=>rhs;rw[←List.take_append_drop k xs]
 rw[List.flatMap_append,List.length_append]
 omega
set_option maxRecDepth 100000 in
set_option maxHeartbeats 2000000 in
theorem xP (base:Nat) (bs:List UInt8) (x:Seg) (vx v:Value) (w0 w:World) (hb0:w0.heap.size≤base) (hbel:Below base w0 w) {lo:Nat} (hx:aG lo w0 vx x.fields)
  (hown:Buf base w v bs) (hbase:base≤w.heap.size) (hl:bs.length+3 * bB x≤1099511627776) :
  Calls Tryz.prog 62 #[.agg #[.string x.name,vx],v] w fun e w'=>∃u R,e=.returned u∧Wr bs (tZ x) R∧Buf base w' u R∧fQ w v w' u:=by
 obtain⟨i0,hi,hz0,hz1,hz2⟩:=oD
 have hlx:=hx.1
 obtain⟨a,cap,rfl,hc⟩:=hx.form
 have HC:=hide hc
 have hop:=hown.own
 have hne:=hown.lt (Nat.le_refl w.heap.size)
 clear hc hx
 have agE:((({ data:=#[124,94,126,92,38] }:ByteArray)[0].toNat:Nat):Int)=124:=rfl
 have HM:Hid (ig x.name=(x.name.toList == [77,83,72])):=rfl
 have hfl:=rC x.fields
 have hsz:bB x=x.name.size+aH aF x.fields:=rfl
 have hnl:x.name.data.toList.length=x.name.size:=by simp
 have FR:Hid (∀wX vX,fQ (w.alloc (.cells #[.string x.name,.slice a x.fields.length cap] 54)) v wX vX →
   Below base w0 wX∧wX.cell? ⟨w.heap.size,1,none⟩=some (.slice a x.fields.length cap)∧base≤wX.heap.size∧wX.cell? ⟨w.heap.size,0,none⟩=some (.string x.name)∧fQ w v wX vX):=fun wX vX hg=>by
  refine⟨(hbel.alloc hbase _).trans (hg.below hop (by simp;omega)),?_,?_,?_,((fQ.refl w v).alloc _).trans hg⟩
  ·rw[World.cell?_of_block (hg.block (b:=w.heap.size) (by simp) hne)];simp
  ·have:=hg.1.size;simp at this;omega
  ·rw[World.cell?_of_block (hg.block (b:=w.heap.size) (by simp) hne)];simp
 have hown1:=hown.alloc (.cells #[.string x.name,.slice a x.fields.length cap] 54)
 have abt:fQ (w.alloc (.cells #[.string x.name,.slice a x.fields.length cap] 54)) v (w.alloc (.cells #[.string x.name,.slice a x.fields.length cap] 54)) v:=fQ.refl _ _
 have hnm:bs.length+x.name.size≤1099511627776:=by omega
 obtain⟨bm,EU⟩:∃b,(x.name.toList == [77,83,72])=b:=⟨_,rfl⟩
 have Uj:Hid (ig x.name=bm):=by rw[HM.out,EU];trivial
 go_enter Tryz.func62,Tryz.ntmps62
 go_upto_if 13 with(first
  | (at_builtin;refine Bq _ rfl _ _ 22 9 rfl base 5 i0 Tryz.underlying22 Tryz.underlying9 hi hz0 hz1 hz2 _ _ _ rfl hown1 x.name rfl ?c3 ?c4 ?c5 ?_)
  | fail)
 case c3=>unfold maxLen;omega
 case c4=>omega
 case c5=>simp;omega
 intro v1 w1 hown' hgrow hat
 have RR:=Buf.text (bs:=bs) x.name abt rfl hown' hgrow (by simpa using hat)
 clear hown' hgrow hat hown1 abt
 obtain⟨zH,hR2⟩:=RR
 obtain⟨_,_,hz1',hbn,_⟩:=FR.out _ _ hR2
 go_upto_if 13 with fail
 go_cut [1] (fun s1 wx=>Buf base wx s1 (bs++x.name.data.toList++dm (ig x.name))∧fQ (w.alloc (.cells #[.string x.name,.slice a x.fields.length cap] 54)) v wx s1)
 case first =>
  cases bm
  ·clear EU
   go_wp2_with fail
   go_meet
   case rel=>exact⟨by rw[Uj.out];simpa [dm] using zH,hR2⟩
  ·clear EU
   go_wp2_with (first
    | (at_builtin;refine Bq _ rfl _ _ 22 9 rfl base 5 i0 Tryz.underlying22 Tryz.underlying9 hi hz0 hz1 hz2 _ _ _ rfl zH ⟨#[124,94,126,92,38]⟩ rfl ?c3 ?c4 ?c5 ?_)
    | fail)
   case c3=>have:(⟨#[124,94,126,92,38]⟩:ByteArray).size=5:=rfl;rw[List.length_append];unfold maxLen;omega
   case c4=>have:(⟨#[124,94,126,92,38]⟩:ByteArray).size=5:=rfl;rw[List.length_append];omega
   case c5=>exact hz1'
   intro v2 w2 hown' hgrow hat
   have RR:=Buf.text (bs:=bs++x.name.data.toList) ⟨#[124,94,126,92,38]⟩ hR2 (n:=bs.length+x.name.size) (by simp) hown' hgrow hat
   clear hown' hgrow hat
   obtain⟨hR3,hR4⟩:=RR
   go_wp2_with fail
   go_meet
   case rel=>exact⟨by rw[Uj.out];simpa [dm] using hR3,hR4⟩
 case rest =>
  clear EU
  clear zH hR2 hz1' hbn
  obtain⟨Xu,hg0⟩:=hcut
  obtain⟨Wc,rfl⟩:∃x,x=wc:=⟨_,rfl⟩
  obtain⟨_,hbx,_,_,_⟩:=FR.out _ _ hg0
  have hPl:(bs++x.name.data.toList++dm (ig x.name)).length≤bs.length+x.name.size+5:=by
   rw[List.length_append,List.length_append]
   unfold dm
   split <;> simp
  have HP:Hid (bs++tZ x=bs++x.name.data.toList++dm (ig x.name)++(bT x.fields++[13])):=by unfold tZ;simp only[List.append_assoc];trivial
  generalize bs++x.name.data.toList++dm (ig x.name)=P at *
  go_wp2_with fail
  clear hbx
  go_loopg [1,19] x.fields.length (fun n v1 i wr=>∃(k:Nat) (R:List UInt8),k≤x.fields.length∧n=x.fields.length - k∧i=.int .i64 k∧Wr P (bT (x.fields.take k)) R∧Buf base wr v1 R∧fQ (w.alloc (.cells #[.string x.name,.slice a x.fields.length cap] 54)) v wr v1)
  case atStart=>exact⟨0,P,eH _,by simp,rfl,by simpa [bT] using Wr.nil P,Xu,hg0⟩
  case round =>
   clear Xu hg0
   obtain⟨k,R,hk,rfl,rfl,hW,hbuf,hg⟩:=hrel
   obtain⟨W1,rfl⟩:∃x,x=wr:=⟨_,rfl⟩
   have HW:=hide hW
   have hRl:=hW.len (Ai x.fields k)
   clear hW
   obtain⟨hb1,_,hz,_,_⟩:=FR.out _ _ hg
   by_cases hlt:k<x.fields.length
   ·obtain⟨b,off,rfl,_,hbl,ve,hc0,hel⟩:=HC.out k hlt
    obtain⟨a5,cap5,rfl,_⟩:=hel.form
    have hcell:W1.cell? ⟨b,off+k,none⟩=some (.slice a5 x.fields[k].length cap5):=by rw[hb1.cell (p:=⟨b,off+k,none⟩) (by show b<base;omega)];simpa using hc0
    have HS:=hide (rA x.fields k hlt)
    have nC:Hid (R.length+3 * aF x.fields[k]+1≤4398046511104):=by
     have h2:=IW aF x.fields k hlt
     unfold aH at hsz hfl
     show R.length+3 * aF x.fields[k]+1≤4398046511104
     omega
    have hRm:R.length+1≤4398046511104:=by have:=nC.out;omega
    clear hc0
    have hne1:=hbuf.lt (Nat.le_refl W1.heap.size)
    have Rb:=hbuf.alloc (.cells #[.slice a5 x.fields[k].length cap5] 57)
    have hg1:=hg.alloc (.cells #[.slice a5 x.fields[k].length cap5] 57)
    clear hbuf hg
    go_wp2_with (first
     | (at_builtin;refine wpList_append_own_at _ rfl _ _ 22 rfl base 5 i0 (.int .u8 0) 1 1 Tryz.underlying22 hi hz0 hz1 hz2 rfl (by decide) _ _ _ rfl (World.ownsRow.alloc Rb _) ⟨W1.heap.size+1,0,none⟩ 1 1 [.int .u8 124] rfl rfl ?c1 ?c2 ?c3 ?c4 ?c5 ?_)
     | fail)
    case c1=>have:=gH (W1.alloc (.cells #[.slice a5 x.fields[k].length cap5] 57)) (.int .u8 124) 5;simpa using this
    case c2=>exact oF _
    case c3=>unfold maxLen;omega
    case c4=>omega
    case c5=>simp;omega
    intro v' w' hown' hgrow hnil hat
    have RR:=Buf.zG (bs:=R) 124 124 (by decide) _ hg1 (by first|rfl|simp|(simp;omega)) hown' hgrow (by simpa using hat)
    have dP:w'.cell? ⟨W1.heap.size,0,none⟩=some (.slice a5 x.fields[k].length cap5):=by
     rw[World.cell?_of_block (hgrow.block W1.heap.size (by simp;omega) (fun e=>hne1 e.symm)),World.cell?_of_block (Deep.blk_alloc_lt _ _ _ (by simp))];simp
    clear hown' hgrow hnil hat
    obtain⟨zH,hR2⟩:=RR
    obtain⟨hB,_,hz2',_,_⟩:=FR.out _ _ hR2
    have HB:=hide hB
    clear hB
    go_wp2_with fail
    refine(BU base (R++[124]) x.fields[k] _ _ w0 _ hb0 HB.out hel zH hz2' (by have:=nC.out;simp;omega)).mono ?_
    rintro e w2 ⟨u,R2,rfl,hW2,hu,hg2⟩
    have HW2:=hide hW2
    clear hW2
    go_wp2_with fail
    go_roundg (x.fields.length - (k+1))
    case rel=>exact⟨k+1,R2,by omega,rfl,by go_num,by rw[HS.out];exact HW.out.trans ((Wr.full R [124]).trans HW2.out),hu,hR2.trans hg2⟩
    case measure=>omega
   ·have HW2:Hid (Wr bs (tZ x) (R++[13])):=by
     have h1:=HW.out
     rw[List.take_of_length_le (by omega)] at h1
     have h2:=h1.trans (Wr.full R [13])
     unfold Wr at h2 ⊢
     rw[HP.out]
     exact h2
    have hRm:R.length+1≤4398046511104:=by unfold aH at hsz hfl;omega
    have hne1:=hbuf.lt (Nat.le_refl W1.heap.size)
    go_wp2_with (first
     | (at_builtin;refine wpList_append_own_at _ rfl _ _ 22 rfl base 5 i0 (.int .u8 0) 1 1 Tryz.underlying22 hi hz0 hz1 hz2 rfl (by decide) _ _ _ rfl (World.ownsRow.alloc hbuf _) ⟨W1.heap.size,0,none⟩ 1 1 [.int .u8 13] rfl rfl ?c1 ?c2 ?c3 ?c4 ?c5 ?_)
     | fail)
    case c1=>exact gH _ _ _
    case c2=>exact oF _
    case c3=>unfold maxLen;omega
    case c4=>omega
    case c5=>simp;omega
    intro v' w' hown' hgrow hnil hat
    have RR:=Buf.zG (bs:=R) 13 13 (by decide) _ hg (by first|rfl|simp|(simp;omega)) hown' hgrow hat
    clear hown' hgrow hnil hat
    obtain⟨zH,hR2⟩:=RR
    obtain⟨_,_,_,_,hgw⟩:=FR.out _ _ hR2
    go_wp2_with fail
    go_ret
    exact⟨_,_,rfl,HW2.out,zH,hgw⟩
set_option maxHeartbeats 1000000 in
theorem EW (x:Seg) (v:Value) (w:World) (hns:x.name.size≤9223372036854775807) {lo:Nat} (hv:aG lo w v x.fields) :
  Calls Tryz.prog 60 #[.agg #[.string x.name,v]] w fun e w'=>e=.returned (.bool (rD x))∧Below w.heap.size w w':=by
 have hl:=hv.1
 have hb:=(Below.refl w.heap.size w).alloc (aS _) (Obj.cells #[.string x.name,v] 54)
 have dP:(w.alloc (Obj.cells #[.string x.name,v] 54)).cell? ⟨w.heap.size,1,none⟩=some v:=by simp
 have hv1:=At.kept aP hv hb
 have HR:Hid (rD x=(dY x.name && (sJ 30 List.length x.fields && x.fields.all gW))):=rfl
 have jr:=hide dP
 clear dP hv
 cases hn:dY x.name
 ·have HX:Hid (rD x=false):=by rw[HR.out,hn];rfl
  have HN:=hide hn
  clear hn
  go_enter Tryz.func60,Tryz.ntmps60
  go_wp2_with fail
  refine(eX x.name _ hns).mono ?_
  rintro e w' ⟨rfl,rfl⟩
  rw[HN.out]
  go_wp2_with fail
  go_ret
  exact⟨aA HX.out.symm,hb⟩
 have HN:=hide hn
 clear hn
 cases hcs:sJ 30 List.length x.fields
 ·have HX:Hid (rD x=false):=by rw[HR.out,hcs,Bool.false_and,Bool.and_false];trivial
  have HS:=hide hcs
  clear hcs
  go_enter Tryz.func60,Tryz.ntmps60
  go_wp2_with fail
  refine(eX x.name _ hns).mono ?_
  rintro e w' ⟨rfl,rfl⟩
  rw[HN.out]
  go_wp2_with fail
  refine(vJ x.fields 30 _ _ hv1 (by omega)).mono ?_
  rintro e w1 ⟨rfl,hb1⟩
  rw[HS.out]
  clear hv1
  go_wp2_with fail
  go_ret
  exact⟨aA HX.out.symm,aj hb1 hb⟩
 ·have HX:Hid (rD x=x.fields.all gW):=by rw[HR.out,hcs,HN.out];rfl
  have HS:=hide hcs
  clear hcs
  go_enter Tryz.func60,Tryz.ntmps60
  go_wp2_with fail
  refine(eX x.name _ hns).mono ?_
  rintro e w' ⟨rfl,rfl⟩
  rw[HN.out]
  go_wp2_with fail
  refine(vJ x.fields 30 _ _ hv1 (by omega)).mono ?_
  rintro e w1 ⟨rfl,hb1⟩
  rw[HS.out]
  have ED:w1.cell? ⟨w.heap.size,1,none⟩=some v:=by rw[hb1.cell (p:=⟨w.heap.size,1,none⟩) (by simp)];exact jr.out
  have hv2:=At.kept aP hv1 hb1
  have hb2:=aj hb1 hb
  clear hv1 hb1 jr hb
  obtain⟨a,cap,rfl,hc⟩:=hv2.form
  have HC:=hide hc
  clear hc hv2
  go_wp2_with fail
  clear ED
  go_loopw [18] (fun i wr=>∃k:Nat,k≤x.fields.length∧i=.int .i64 k∧(x.fields.take k).all gW=true∧Below w1.heap.size w1 wr) (fun i _=>x.fields.length - (intOf i).toNat)
  case atStart=>exact⟨0,eH _,rfl,rfl,Below.refl _ _⟩
  case round =>
   obtain⟨k,hk,rfl,hall,hbr⟩:=hrel
   have HA:=hide hall
   clear hall
   by_cases hlt:k<x.fields.length
   ·obtain⟨b,off,rfl,_,hbl,ve,hcell,hel⟩:=HC.out k hlt
    obtain⟨a5,cap5,rfl,_⟩:=hel.form
    have hcell':wr.cell? ⟨b,off+k,none⟩=some (.slice a5 x.fields[k].length cap5):=by rw[hbr.cell (p:=⟨b,off+k,none⟩) hbl];simpa using hcell
    have KD:=hbr.alloc hbr.size (Obj.cells #[.slice a5 x.fields[k].length cap5] 57)
    have xD:=At.kept iQ hel KD
    clear hcell hel
    go_wp2_with fail
    refine(Ii x.fields[k] _ _ xD).mono ?_
    rintro e w2 ⟨rfl,hb3⟩
    have hb4:Below w1.heap.size w1 w2:=aj hb3 KD
    clear hbr KD hb3 hcell' xD
    cases hp:gW x.fields[k]
    ·have HF:=hide (iy hlt hp)
     clear hp
     go_wp2_with fail
     go_ret
     exact⟨aA (by rw[HX.out,HF.out]),aj hb4 hb2⟩
    ·have HF:=hide (jD hlt HA.out hp)
     clear hp
     go_wp2_with fail
     go_roundw
     case rel=>exact⟨k+1,by omega,by go_num,HF.out,hb4⟩
     case measure=>simp[intOf];omega
   ·have HF:=hide (jE (by omega) HA.out)
    go_wp2_with fail
    go_ret
    exact⟨aA (by rw[HX.out,HF.out]),aj hbr hb2⟩
def Rc (P:Prop) (w:World) (e:Ending) (w':World):Prop:=∃b:Bool,e=.returned (.bool b)∧(b=true ↔ P)∧Below w.heap.size w w'
theorem EX {x y:ByteArray} (h:¬x=y):¬x.toList=y.toList∧(x.toList == y.toList)=false:=by
 have e:¬x.toList=y.toList:=fun e=>h (FM (by rw[ByteArray.toList_eq,ByteArray.toList_eq] at e;exact e))
 exact⟨e,by rw[beq_eq_false_iff_ne];exact e⟩
theorem uS {α:Type} {xs ys:List α} {k:Nat} (h1:k<xs.length) (h2:k<ys.length) (h:xs.take k=ys.take k) (e:xs[k]=ys[k]):xs.take (k+1)=ys.take (k+1):=by
 rw[List.take_succ_eq_append_getElem h1,List.take_succ_eq_append_getElem h2,h,e]
theorem xQ {α:Type} {xs ys:List α} (hl:xs.length=ys.length) (h:xs.take xs.length=ys.take xs.length):xs=ys:=by
 rw[List.take_length] at h
 rw[h,hl,List.take_length]
set_option maxHeartbeats 2000000 in
theorem IX (xs ys:List ByteArray) (v u:Value) (w:World) {lo lo2:Nat} (hv:bq lo w v xs) (hu:bq lo2 w u ys) :
  Calls Tryz.prog 107 #[v,u] w (Rc (xs=ys) w):=by
 have hl1:=hv.1
 have hl2:=hu.1
 obtain⟨a,cap,rfl,hc⟩:=hv.form
 obtain⟨a2,cap2,rfl,hc2⟩:=hu.form
 clear hv hu
 by_cases hl:xs.length=ys.length
 ·obtain⟨n,hn⟩:∃n,xs.length=n:=⟨_,rfl⟩
  have hn2:ys.length=n:=by omega
  rw[hn,hn2]
  rw[hn] at hl1
  have HC:Hid (∀k (h1:k<xs.length) (h2:k<ys.length),∃b off b2 off2,a=some ⟨b,off,none⟩∧a2=some ⟨b2,off2,none⟩∧b<w.heap.size∧b2<w.heap.size∧w.cell? ⟨b,off+k,none⟩=some (.string (xs[k]))∧w.cell? ⟨b2,off2+k,none⟩=some (.string (ys[k]))):=fun k h1 h2=>by
   obtain⟨b,off,e1,_,l1,r1⟩:=hc k h1
   obtain⟨b2,off2,e2,_,l2,r2⟩:=hc2 k h2
   exact⟨b,off,b2,off2,e1,e2,l1,l2,by simpa using r1.1,by simpa using r2.1⟩
  have HN:=hide (And.intro hn hn2)
  clear hc hc2 hl hl2 hn hn2
  go_enter Tryz.func107,Tryz.ntmps107
  go_wp2_with fail
  go_loopg [5] n (fun q i wr=>∃k:Nat,k≤n∧q=n - k∧i=.int .i64 (k:Int)∧xs.take k=ys.take k∧Below w.heap.size w wr)
  case atStart=>exact⟨0,eH _,rfl,rfl,rfl,Below.refl _ _⟩
  case round =>
   obtain⟨k,hk,rfl,rfl,htk,hb⟩:=hrel
   have HT:=hide htk
   clear htk
   by_cases hlt:k<n
   ·have hki:(k:Int)<(n:Int):=by omega
    have k1:k<xs.length:=by have:=HN.out.1;omega
    have k2:k<ys.length:=by have:=HN.out.2;omega
    obtain⟨b,off,b2,off2,rfl,rfl,l1,l2,r1,r2⟩:=HC.out k k1 k2
    have h1:=(hb.cell (p:=⟨b,off+k,none⟩) l1).trans r1
    have h2:=(hb.cell (p:=⟨b2,off2+k,none⟩) l2).trans r2
    obtain⟨x,hx⟩:∃x,xs[k]=x:=⟨_,rfl⟩
    obtain⟨y,hy⟩:∃y,ys[k]=y:=⟨_,rfl⟩
    rw[hx] at h1
    rw[hy] at h2
    clear r1 r2
    by_cases hxy:x=y
    ·subst hxy
     have HT2:=hide (uS k1 k2 HT.out (hx.trans hy.symm))
     clear hx hy k1 k2
     go_wp2_with fail
     go_quiet (fail)
     go_wp2_with fail
     go_roundg (n - (k+1))
     case measure=>omega
     case rel=>exact⟨k+1,by omega,rfl,by go_num,HT2.out,below_drewN hb _⟩
    ·have HX:Hid (¬xs=ys):=fun e=>hxy (by subst e;exact hx.symm.trans hy)
     obtain⟨e1,e2⟩:=EX hxy
     clear hx hy k1 k2 hxy
     go_wp2_with fail
     go_quiet (fail)
     go_wp2_with fail
     go_ret
     exact⟨false,rfl,⟨fun h=>(by cases h),fun h=>absurd h HX.out⟩,below_drewN hb _⟩
   ·have hki:¬(k:Int)<(n:Int):=by omega
    have HX:Hid (xs=ys):=by
     have h1:=HN.out
     have:k=xs.length:=by omega
     have h2:=HT.out
     rw[this] at h2
     exact xQ (by omega) h2
    go_wp2_with fail
    go_ret
    exact⟨true,rfl,⟨fun _=>HX.out,fun _=>rfl⟩,hb⟩
 ·have hli:¬(xs.length:Int)=(ys.length:Int):=by omega
  have hlb:((xs.length:Int) == (ys.length:Int))=false:=by simpa using hli
  have HX:Hid (¬xs=ys):=fun e=>hl (by rw[e])
  clear hc hc2 hl
  go_enter Tryz.func107,Tryz.ntmps107
  go_wp2_with fail
  go_ret
  exact⟨false,rfl,⟨fun h=>(by cases h),fun h=>absurd h HX.out⟩,Below.refl _ _⟩
set_option maxRecDepth 100000 in
set_option maxHeartbeats 4000000 in
theorem IY (xs ys:Field) (v u:Value) (w:World) {lo lo2:Nat} (hv:gL lo w v xs) (hu:gL lo2 w u ys) :
  Calls Tryz.prog 77 #[.agg #[v],.agg #[u]] w (Rc (xs=ys) w):=by
 have hl1:=hv.1
 have hl2:=hu.1
 obtain⟨w2,hw2⟩:∃w2,(w.alloc (Obj.cells #[v] 57)).alloc (Obj.cells #[u] 57)=w2:=⟨_,rfl⟩
 have hb0:Below w.heap.size w w2:=by rw[←hw2];exact((Below.refl w.heap.size w).alloc (aS _) _).alloc (by simp) _
 have c0:w2.cell? ⟨w.heap.size,0,none⟩=some v:=by rw[←hw2];simp
 have c1:w2.cell? ⟨w.heap.size+1,0,none⟩=some u:=by rw[←hw2];simp
 have hs2:w2.heap.size=w.heap.size+2:=by rw[←hw2];simp
 have hv2:=At.kept iQ hv hb0
 have hu2:=At.kept iQ hu hb0
 obtain⟨a,cap,rfl,hc⟩:=hv2.form
 obtain⟨a2,cap2,rfl,hc2⟩:=hu2.form
 have HB0:=hide hb0
 have HW2:=hide hw2
 clear hv hu hv2 hu2 hb0 hw2
 by_cases hl:xs.length=ys.length
 ·obtain⟨n,hn⟩:∃n,xs.length=n:=⟨_,rfl⟩
  have hn2:ys.length=n:=by omega
  have HN:=hide (And.intro hn hn2)
  have KB:Hid (∀X,Below w2.heap.size w2 X→X.cell? ⟨w.heap.size,0,none⟩=some (.slice a n cap)∧X.cell? ⟨w.heap.size+1,0,none⟩=some (.slice a2 n cap2)):=fun X h=>by
   rw[←hn]
   refine⟨(h.cell (p:=⟨w.heap.size,0,none⟩) (by rw[hs2];simp)).trans c0,?_⟩
   rw[hn,←hn2]
   exact(h.cell (p:=⟨w.heap.size+1,0,none⟩) (by rw[hs2];simp)).trans c1
  have HC:Hid (∀k (h1:k<xs.length) (h2:k<ys.length),∃b off b2 off2 ve ue,a=some ⟨b,off,none⟩∧a2=some ⟨b2,off2,none⟩∧b<w2.heap.size∧b2<w2.heap.size∧w2.cell? ⟨b,off+k,none⟩=some ve∧w2.cell? ⟨b2,off2+k,none⟩=some ue∧bq lo w2 ve (xs[k])∧bq lo2 w2 ue (ys[k])):=fun k h1 h2=>by
   obtain⟨b,off,e1,_,l1,ve,r1,s1⟩:=hc k h1
   obtain⟨b2,off2,e2,_,l2,ue,r2,s2⟩:=hc2 k h2
   exact⟨b,off,b2,off2,ve,ue,e1,e2,l1,l2,by simpa using r1,by simpa using r2,s1,s2⟩
  have hw2:=HW2.out
  rw[hn] at c0 hw2 ⊢
  rw[hn2] at c1 hw2 ⊢
  rw[hn] at hl1
  clear hc hc2 hl hl2 hn hn2 HW2
  go_enter Tryz.func77,Tryz.ntmps77
  go_wp2_with fail
  go_loopg [5] n (fun q i wr=>∃k:Nat,k≤n∧q=n - k∧i=.int .i64 (k:Int)∧xs.take k=ys.take k∧Below w2.heap.size w2 wr)
  case atStart=>exact⟨0,eH _,rfl,rfl,rfl,Below.refl _ _⟩
  case round =>
   obtain⟨k,hk,rfl,rfl,htk,hb⟩:=hrel
   have HT:=hide htk
   clear htk c0 c1
   obtain⟨c0,c1⟩:=KB.out wr hb
   have GZ:=hide hb
   by_cases hlt:k<n
   ·have hki:(k:Int)<(n:Int):=by omega
    have k1:k<xs.length:=by have:=HN.out.1;omega
    have k2:k<ys.length:=by have:=HN.out.2;omega
    obtain⟨b,off,b2,off2,ve,ue,rfl,rfl,l1,l2,r1,r2,s1,s2⟩:=HC.out k k1 k2
    obtain⟨x,hx⟩:∃x,xs[k]=x:=⟨_,rfl⟩
    obtain⟨y,hy⟩:∃y,ys[k]=y:=⟨_,rfl⟩
    rw[hx] at s1
    rw[hy] at s2
    have KS:Hid (∀X,Below w2.heap.size w2 X→X.cell? ⟨w.heap.size,0,none⟩=some (.slice (some ⟨b,off,none⟩) n cap)∧X.cell? ⟨w.heap.size+1,0,none⟩=some (.slice (some ⟨b2,off2,none⟩) n cap2)∧X.cell? ⟨b,off+k,none⟩=some ve∧X.cell? ⟨b2,off2+k,none⟩=some ue):=fun X h =>
     ⟨(KB.out X h).1,(KB.out X h).2,(h.cell (p:=⟨b,off+k,none⟩) l1).trans r1,(h.cell (p:=⟨b2,off2+k,none⟩) l2).trans r2⟩
    have HST:=hide (fun X (h:Below w2.heap.size w2 X)=>IX x y ve ue X (At.kept bE s1 h) (At.kept bE s2 h))
    have HT2:=hide (fun e:x=y=>uS k1 k2 HT.out (hx.trans (e.trans hy.symm)))
    have K5:Hid (¬x=y→¬xs=ys):=fun hne e=>hne (by subst e;exact hx.symm.trans hy)
    obtain⟨D,hDe⟩:∃D,wr.drew=D:=⟨_,rfl⟩
    have hD0:Below w2.heap.size w2 wr.drew:=hb.drew
    have hD:Below w2.heap.size w2 D:=by rw[←hDe];exact hD0
    clear hx hy k1 k2 r1 r2 s1 s2 hb
    go_wp2_with fail
    go_region_held3 (fun X=>X.cell? ⟨w.heap.size,0,none⟩=some (.slice (some ⟨b,off,none⟩) n cap)∧X.cell? ⟨w.heap.size+1,0,none⟩=some (.slice (some ⟨b2,off2,none⟩) n cap2)∧X.cell? ⟨b,off+k,none⟩=some ve∧X.cell? ⟨b2,off2+k,none⟩=some ue)
     (first|with_reducible exact KS.out _ hD0|with_reducible exact KS.out _ hD|with_reducible exact KS.out _ nX)
     ((go_at_call 107;refine(HST.out _ hD).mono ?_;rintro e W9 ⟨bb,rfl,hbb,ou⟩;have nX:Below w2.heap.size w2 W9:=aj ou hD))
    have nX:Below w2.heap.size w2 W9:=aj ou hD
    have hcc:bb=true∨bb=false:=by cases bb;exact .inr rfl;exact .inl rfl
    rcases hcc with hcc|hcc
    ·subst hcc
     have Vn:=hide (HT2.out (hbb.1 rfl))
     go_wp2_with fail
     go_roundg (n - (k+1))
     case measure=>omega
     case rel=>exact⟨k+1,by omega,rfl,by go_num,Vn.out,nX⟩
    ·subst hcc
     have Vn:=hide (K5.out (fun e=>by have:=hbb.2 e;cases this))
     go_wp2_with fail
     go_ret
     exact⟨false,rfl,⟨fun h=>(by cases h),fun h=>absurd h Vn.out⟩,aj nX HB0.out⟩
   ·have hki:¬(k:Int)<(n:Int):=by omega
    have HX:Hid (xs=ys):=by
     have h1:=HN.out
     have:k=xs.length:=by omega
     have h2:=HT.out
     rw[this] at h2
     exact xQ (by omega) h2
    go_wp2_with fail
    go_ret
    exact⟨true,rfl,⟨fun _=>HX.out,fun _=>rfl⟩,aj GZ.out HB0.out⟩
 ·have hli:¬(xs.length:Int)=(ys.length:Int):=by omega
  have hlb:((xs.length:Int) == (ys.length:Int))=false:=by simpa using hli
  have HX:Hid (¬xs=ys):=fun e=>hl (by rw[e])
  have hw2:=HW2.out
  clear hc hc2 hl HW2
  go_enter Tryz.func77,Tryz.ntmps77
  go_wp2_with fail
  go_ret
  exact⟨false,rfl,⟨fun h=>(by cases h),fun h=>absurd h HX.out⟩,HB0.out⟩
end Go.Proofs.YtfdihjnlgdiioaaGreatDoor.dB
