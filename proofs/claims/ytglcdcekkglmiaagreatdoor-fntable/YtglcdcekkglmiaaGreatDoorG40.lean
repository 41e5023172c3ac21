import Derived.Test.YtglcdcekkglmiaaGreatDoorG2
import Derived.Deep.LoopGhost
import Derived.Test.YtglcdcekkglmiaaGreatDoorG15
import Derived.Deep.RegionHeld3
import Derived.Deep.CutBlock
import Derived.Test.YtglcdcekkglmiaaGreatDoorG9
namespace Go.Proofs.YtglcdcekkglmiaaGreatDoor.Msg
open Go.ChangeShapes Go.WideShapes Go.ChangeAt Go.RowKit
set_option linter.unusedVariables false
set_option linter.unusedSimpArgs false
def growS (n:Nat):Nat→ByteArray→ByteArray
 | 0,s=>s
 | f+1,s=>if s.size * 2≤n then growS n f (s++s) else s
theorem growS_stop {n f:Nat} {s:ByteArray} (h:¬s.size * 2≤n):growS n f s=s:=by
 cases f with
 | zero=>rfl
 | succ f=>exact if_neg h
theorem growS_step {n f:Nat} {s:ByteArray} (h:s.size * 2≤n):growS n (f+1) s=growS n f (s++s):=if_pos h
theorem growS_sz (n:Nat):∀(f:Nat) (s:ByteArray),s.size≤(growS n f s).size∧(growS n f s).size≤max n s.size
 | 0,s=>⟨leR _,Nat.le_max_right ..⟩
 | f+1,s=>by
  by_cases h:s.size * 2≤n
  ·rw[growS_step h]
   have:=growS_sz n f (s++s)
   rw[ByteArray.size_append] at this
   refine⟨by omega,?_⟩
   have h2:=this.2
   omega
  ·rw[growS_stop h]
   exact⟨leR _,Nat.le_max_right ..⟩
def longS (b:ByteArray):Nat→Nat→ByteArray
 | 0,_=>⟨#[]⟩
 | f+1,n=>if n=0 then ⟨#[]⟩ else if (growS n 64 b).size<n then growS n 64 b++longS b f (n - (growS n 64 b).size) else growS n 64 b
theorem longS_sz (b:ByteArray):∀(f n:Nat),(longS b f n).size≤n+b.size
 | 0,n=>zrL _
 | f+1,n=>by
  unfold longS
  by_cases h0:n=0
  ·rw[if_pos h0];exact zrL _
  ·rw[if_neg h0]
   have h1:=growS_sz n 64 b
   split
   ·rw[ByteArray.size_append]
    have:=longS_sz b f (n - (growS n 64 b).size)
    omega
   ·have:=h1.2
    omega
set_option maxRecDepth 100000 in
set_option maxHeartbeats 2000000 in
theorem long_go (b:ByteArray) (hb1:1≤b.size) (hb2:b.size≤100):∀(f n:Nat),n<f→n≤100000→∀w:World,
  Calls Tryz.prog 83 #[.int .i64 (n:Int),.string b] w fun e w'=>e=.returned (.string (longS b f n))∧w'=w:=by
 intro f
 induction f with
 | zero=>intro n h;omega
 | succ f ih =>
  intro n hnf hn w
  have HIH:=hide ih
  clear ih
  obtain⟨r,hr⟩:∃r,longS b (f+1) n=r:=⟨_,rfl⟩
  have HR:=hide hr
  rw[hr]
  unfold longS at HR
  clear hr
  by_cases h0:n=0
  ·subst h0
   have HX:Hid (r=⟨#[]⟩):=by have:=HR.out;rw[if_pos rfl] at this;exact this.symm
   go_enter Tryz.func83,Tryz.ntmps83
   go_wp2_with fail
   go_loopg [5] 0 (fun q v5 wr=>v5=.string ⟨#[]⟩∧wr=w)
   case atStart=>exact⟨rfl,rfl⟩
   case round =>
    obtain⟨rfl,rfl⟩:=hrel
    go_wp2_with fail
    go_ret
    exact⟨by rw[HX.out];rfl,rfl⟩
  ·have hpos:(0:Int)<(n:Int):=by omega
   rw[if_neg h0] at HR
   obtain⟨G,hG⟩:∃g,growS n 64 b=g:=⟨_,rfl⟩
   have hgz:=growS_sz n 64 b
   rw[hG] at HR hgz
   have HG:=hide hG
   have hpow:n<b.size * 2 ^ 64:=by
    have:1 * 2 ^ 64≤b.size * 2 ^ 64:=Nat.mul_le_mul_right _ hb1
    omega
   have HPW:=hide hpow
   clear hG h0 hpow
   go_enter Tryz.func83,Tryz.ntmps83
   have hd:decide (0<n)=true:=decide_eq_true (by omega)
   go_wp2_with fail
   (try rw[hd])
   go_loopg [5] 64 (fun q v5 wr=>∃s:ByteArray,v5=.string s∧wr=w∧growS n q s=G∧n<s.size * 2 ^ q∧1≤s.size∧s.size≤100000)
   case atStart=>exact⟨b,rfl,rfl,HG.out,HPW.out,hb1,by omega⟩
   case round =>
    obtain⟨s,rfl,hw,hg,hq,hs1,hs2⟩:=hrel
    rw[hw]
    clear hw
    by_cases hc:s.size * 2≤n
    ·have hci:(s.size:Int) * 2≤(n:Int):=by omega
     have HS:Hid (∃q',gk=q'+1∧growS n q' (s++s)=G∧n<(s++s).size * 2 ^ q'):=by
      cases gk with
      | zero=>simp at hq;omega
      | succ q' =>
       refine⟨q',rfl,?_,?_⟩
       ·rw[←hg];exact(growS_step hc).symm
       ·rw[ByteArray.size_append];rw[Nat.pow_succ] at hq
        have e:(s.size+s.size) * 2 ^ q'=s.size * (2 ^ q' * 2):=by rw[Nat.add_mul,←Nat.mul_assoc];omega
        rw[e];exact hq
     have hz2:(s++s).size=s.size+s.size:=ByteArray.size_append
     clear hg hq
     obtain⟨q',rfl,hg',hq'⟩:=HS.out
     have HREL:Hid (∃t:ByteArray,Value.string (s++s)=.string t∧w=w∧growS n q' t=G∧n<t.size * 2 ^ q'∧1≤t.size∧t.size≤100000):=⟨s++s,rfl,rfl,hg',hq',by omega,by omega⟩
     clear hg' hq' HS hz2
     go_wp2_with fail
     go_roundg q'
     case measure=>omega
     case rel =>
      obtain⟨t,q1,_,q2,q3,q4,q5⟩:=HREL.out
      exact⟨t,q1,rfl,q2,q3,q4,q5⟩
    ·have hci:¬(s.size:Int) * 2≤(n:Int):=by omega
     have hGs:G=s:=by rw[←hg];exact growS_stop hc
     clear hg hq
     subst hGs
     by_cases hlt:G.size<n
     ·have hlti:(G.size:Int)<(n:Int):=by omega
      obtain⟨n2,hn2⟩:∃k,n - G.size=k:=⟨_,rfl⟩
      rw[if_pos hlt,hn2] at HR
      have hn2i:(n:Int) - (G.size:Int)=(n2:Int):=by omega
      have HI:=hide (HIH.out n2 (by omega) (by omega) w)
      have hz:=longS_sz b f n2
      obtain⟨t,ht⟩:∃t,longS b f n2=t:=⟨_,rfl⟩
      rw[ht] at HI HR hz
      clear hn2 ht
      go_wp2_with fail
      refine HI.out.mono ?_
      rintro e y ⟨rfl,hy⟩
      (try rw[hy])
      clear hy y
      go_wp2_with fail
      go_ret
      exact⟨by rw[←HR.out];rfl,rfl⟩
     ·have hlti:¬(G.size:Int)<(n:Int):=by omega
      rw[if_neg hlt] at HR
      go_wp2_with fail
      go_ret
      exact⟨by rw[←HR.out];rfl,rfl⟩
theorem long_any (b:ByteArray) (hb1:1≤b.size) (hb2:b.size≤100) (n:Nat) (hn:n≤100000) (w:World) :
  Calls Tryz.prog 83 #[.int .i64 (n:Int),.string b] w fun e w'=>e=.returned (.string (longS b (n+1) n))∧w'=w:=long_go b hb1 hb2 (n+1) n (by omega) hn w
def qTags:List ByteArray:=[⟨#[116,49]⟩,⟨#[116,50]⟩,⟨#[116,51]⟩,⟨#[84,124,52]⟩,⟨#[116,49]⟩]
def drTag (cs:List UInt8) (p:Nat):ByteArray:=qTags.getD (tk cs p 5) ⟨#[]⟩
theorem drTag_sz (cs:List UInt8) (p:Nat):(drTag cs p).size≤3:=by
 unfold drTag
 rw[List.getD_eq_getElem?_getD]
 by_cases h:tk cs p 5<qTags.length
 ·rw[List.getElem?_eq_getElem h]
  exact(by decide:∀x∈qTags,x.size≤3) _ (List.getElem_mem h)
 ·rw[List.getElem?_eq_none (by omega)];exact zrL _
def drTxt (cs:List UInt8) (p:Nat):ByteArray :=
 if tk cs p 8=0 then ⟨#[]⟩ else if tk cs p 8=1 then ((⟨#[120,124,94]⟩++⟨#[UInt8.ofNat 92]⟩)++⟨#[126,38]⟩)++decT (tk cs (p+1) 60)
 else if tk cs p 8=2 then longS ⟨#[119]⟩ (tk cs (p+1) 60+1) (tk cs (p+1) 60) else ⟨#[113]⟩++decT (tk cs (p+1) 60)
theorem decT_small (u:Nat) (h:u≤1000):(decT u).size≤10:=by
 have h3:=dec_len 3 u (by omega)
 show (Lib.decDigits u).toArray.size≤10
 simp
 omega
theorem drTxt_sz (cs:List UInt8) (p:Nat):(drTxt cs p).size≤100:=by
 have h1:=tk_le cs (p+1) 60 59 (by decide)
 have h2:=decT_small (tk cs (p+1) 60) (by omega)
 unfold drTxt
 split
 ·exact zrL _
 ·split
  ·rw[ByteArray.size_append,ByteArray.size_append,ByteArray.size_append]
   have e1:(⟨#[120,124,94]⟩:ByteArray).size=3:=rfl
   have e2:(⟨#[UInt8.ofNat 92]⟩:ByteArray).size=1:=rfl
   have e3:(⟨#[126,38]⟩:ByteArray).size=2:=rfl
   omega
  ·split
   ·have:=longS_sz ⟨#[119]⟩ (tk cs (p+1) 60+1) (tk cs (p+1) 60)
    have e1:(⟨#[119]⟩:ByteArray).size=1:=rfl
    omega
   ·rw[ByteArray.size_append]
    have e1:(⟨#[113]⟩:ByteArray).size=1:=rfl
    omega
set_option maxRecDepth 100000 in
set_option maxHeartbeats 4000000 in
theorem drawTag_any (cs:List UInt8) (v:Value) (p:Nat) (w:World) {lo:Nat} (hv:CodeAt lo w v cs) (hl:cs.length≤1048576) (hp:p≤4000000) :
  Calls Tryz.prog 46 #[v,.int .i64 (p:Int)] w fun e w'=>e=.returned (.tuple #[.string (drTag cs p),.int .i64 ((p+1:Nat):Int)])∧Below w.heap.size w w':=by
 have HT1:=hide (take_any cs v p 5 w hv hl (by omega) (by decide))
 have hlt:=tk_lt cs p 5 (by decide)
 obtain⟨aa,cap,rfl,_⟩:=code_form hv
 obtain⟨r,hr⟩:∃r,drTag cs p=r:=⟨_,rfl⟩
 have HB:Hid (∀o,Below w.heap.size w (w.alloc o)):=fun o=>(Below.refl _ _).alloc (leR _) o
 have hr':qTags.getD (tk cs p 5) ⟨#[]⟩=r:=hr
 rw[hr]
 obtain⟨a,ha⟩:∃a,tk cs p 5=a:=⟨_,rfl⟩
 rw[ha] at HT1 hlt hr'
 have hc:(w.alloc (.cells #[.string ⟨#[116,49]⟩,.string ⟨#[116,50]⟩,.string ⟨#[116,51]⟩,.string ⟨#[84,124,52]⟩,.string ⟨#[116,49]⟩] 9)).cell? ⟨w.heap.size,a,none⟩=some (.string r):=by
  rw[←hr']
  rcases(by omega:a=0∨a=1∨a=2∨a=3∨a=4) with rfl|rfl|rfl|rfl|rfl <;> simp[qTags]
 have hai:(a:Int)<5:=by omega
 obtain⟨p1,hp1⟩:∃q,p+1=q:=⟨_,rfl⟩
 rw[hp1] at HT1 ⊢
 clear hv hr hr' ha hlt hp1
 go_enter Tryz.func46,Tryz.ntmps46
 go_wp2_with fail
 refine HT1.out.mono ?_
 rintro e w2 ⟨rfl,hw2⟩
 rw[hw2]
 clear hw2 w2
 go_wp2_with fail
 go_ret2
 exact⟨rfl,HB.out _⟩
set_option maxRecDepth 100000 in
set_option maxHeartbeats 4000000 in
theorem drawTxt_any (cs:List UInt8) (v:Value) (p:Nat) (w:World) {lo:Nat} (hv:CodeAt lo w v cs) (hl:cs.length≤1048576) (hp:p≤4000000) :
  Calls Tryz.prog 47 #[v,.int .i64 (p:Int)] w fun e w'=>e=.returned (.tuple #[.string (drTxt cs p),.int .i64 ((p+2:Nat):Int)])∧Below w.heap.size w w':=by
 have HT1:=hide (take_any cs v p 8 w hv hl (by omega) (by decide))
 have HT2:=hide (take_any cs v (p+1) 60 w hv hl (by omega) (by decide))
 obtain⟨aa,cap,rfl,_⟩:=code_form hv
 have hlt:=tk_lt cs p 8 (by decide)
 have hlt2:=tk_lt cs (p+1) 60 (by decide)
 obtain⟨r,hr⟩:∃r,drTxt cs p=r:=⟨_,rfl⟩
 rw[hr]
 unfold drTxt at hr
 obtain⟨a,ha⟩:∃a,tk cs p 8=a:=⟨_,rfl⟩
 obtain⟨b,hb⟩:∃a,tk cs (p+1) 60=a:=⟨_,rfl⟩
 rw[ha] at HT1 hlt hr
 rw[hb] at HT2 hlt2 hr
 have HSH:=hide (fun W=>show_any b W (by omega))
 have HBY:=hide (fun W=>Frame.byte_any 92 W (by decide) (by decide))
 have HLO:=hide (fun W=>long_any ⟨#[119]⟩ (by decide) (by decide) b (by omega) W)
 have hds:=decT_small b (by omega)
 obtain⟨dt,hdt⟩:∃t,decT b=t:=⟨_,rfl⟩
 rw[hdt] at HSH hr hds
 have e1:((p+2:Nat):Int)=((p+1+1:Nat):Int):=by omega
 rw[e1]
 obtain⟨p1,hp1⟩:∃q,p+1=q:=⟨_,rfl⟩
 rw[hp1] at HT1 HT2 ⊢
 obtain⟨p2,hp2⟩:∃q,p1+1=q:=⟨_,rfl⟩
 rw[hp2] at HT2 ⊢
 have HB0:Hid (Below w.heap.size w w):=Below.refl _ _
 clear hv ha hb hdt e1 hp1 hp2
 by_cases h0:a=0
 ·rw[if_pos h0] at hr
  have h0b:((a:Int) == 0)=true:=by simp;omega
  have HR:=hide hr
  clear h0 hr
  go_enter Tryz.func47,Tryz.ntmps47
  go_wp2_with fail
  refine HT1.out.mono ?_
  rintro e w2 ⟨rfl,hw2⟩
  rw[hw2]
  clear hw2 w2
  go_wp2_with fail
  refine HT2.out.mono ?_
  rintro e w2 ⟨rfl,hw2⟩
  rw[hw2]
  clear hw2 w2
  go_wp2_with fail
  go_ret2
  exact⟨by rw[←HR.out];rfl,HB0.out⟩
 rw[if_neg h0] at hr
 have h0b:((a:Int) == 0)=false:=by simp;omega
 by_cases h1:a=1
 ·rw[if_pos h1] at hr
  have h1b:((a:Int) == 1)=true:=by simp;omega
  have HR:=hide hr
  clear h0 h1 hr
  go_enter Tryz.func47,Tryz.ntmps47
  go_wp2_with fail
  refine HT1.out.mono ?_
  rintro e w2 ⟨rfl,hw2⟩
  rw[hw2]
  clear hw2 w2
  go_wp2_with fail
  refine HT2.out.mono ?_
  rintro e w2 ⟨rfl,hw2⟩
  rw[hw2]
  clear hw2 w2
  go_wp2_with fail
  refine(HBY.out _).mono ?_
  rintro e w2 ⟨rfl,hb2⟩
  have HB2:=hide hb2
  clear hb2
  go_wp2_with fail
  refine(HSH.out _).mono ?_
  rintro e w3 ⟨rfl,hb3⟩
  have HB3:=hide (bjoin hb3 HB2.out)
  clear hb3
  go_wp2_with fail
  go_ret2
  exact⟨by rw[←HR.out];rfl,HB3.out⟩
 rw[if_neg h1] at hr
 have h1b:((a:Int) == 1)=false:=by simp;omega
 by_cases h2:a=2
 ·rw[if_pos h2] at hr
  have h2b:((a:Int) == 2)=true:=by simp;omega
  have HR:=hide hr
  clear h0 h1 h2 hr
  go_enter Tryz.func47,Tryz.ntmps47
  go_wp2_with fail
  refine HT1.out.mono ?_
  rintro e w2 ⟨rfl,hw2⟩
  rw[hw2]
  clear hw2 w2
  go_wp2_with fail
  refine HT2.out.mono ?_
  rintro e w2 ⟨rfl,hw2⟩
  rw[hw2]
  clear hw2 w2
  go_wp2_with fail
  refine(HLO.out _).mono ?_
  rintro e w2 ⟨rfl,hw2⟩
  rw[hw2]
  clear hw2 w2
  rw[HR.out]
  go_wp2_with fail
  go_ret2
  exact⟨rfl,HB0.out⟩
 rw[if_neg h2] at hr
 have h2b:((a:Int) == 2)=false:=by simp;omega
 have HR:=hide hr
 clear h0 h1 h2 hr
 go_enter Tryz.func47,Tryz.ntmps47
 go_wp2_with fail
 refine HT1.out.mono ?_
 rintro e w2 ⟨rfl,hw2⟩
 rw[hw2]
 clear hw2 w2
 go_wp2_with fail
 refine HT2.out.mono ?_
 rintro e w2 ⟨rfl,hw2⟩
 rw[hw2]
 clear hw2 w2
 go_wp2_with fail
 refine(HSH.out _).mono ?_
 rintro e w3 ⟨rfl,hb3⟩
 have HB3:=hide hb3
 clear hb3
 go_wp2_with fail
 go_ret2
 exact⟨by rw[←HR.out];rfl,HB3.out⟩
end Go.Proofs.YtglcdcekkglmiaaGreatDoor.Msg
namespace Go.Proofs.YtglcdcekkglmiaaGreatDoor.Msg
open Go.ChangeShapes Go.WideShapes Go.ChangeAt Go.RowKit Go.Shelf
set_option linter.unusedVariables false
set_option linter.unusedSimpArgs false
theorem bat_below {T e:TypeId} {B b:Nat} {p:Value} {bs:List Value} {w w':World} (h:Lib.BuilderAt T e B b p bs w) (hb:Below w.heap.size w w'):Lib.BuilderAt T e B b p bs w':=by
 obtain⟨hB,v,hk,hown,hne⟩:=h
 have hlt:b<w.heap.size:=by rw[Array.getElem?_eq_some_iff] at hk;exact hk.1
 refine⟨hB,v,by rw[hb.block b hlt];exact hk,?_,hne⟩
 obtain⟨h0,⟨rfl,h1⟩|⟨g,cap,cur,rfl,hg,hh,rest⟩⟩:=hown
 ·exact⟨h0,.inl ⟨rfl,h1⟩⟩
 ·have hgl:g<w.heap.size:=by rw[Array.getElem?_eq_some_iff] at hh;exact hh.1
  exact⟨h0,.inr ⟨g,cap,cur,rfl,hg,by rw[hb.block g hgl];exact hh,rest⟩⟩
theorem isb_below {T e:TypeId} {B b:Nat} {bs:List Value} {w w':World} (h:Lib.IsBuilder T e B b bs w) (hb:Below w.heap.size w w'):Lib.IsBuilder T e B b bs w':=by
 rcases h with h|h
 ·exact .inl (bat_below h hb)
 ·exact .inr (bat_below h hb)
theorem copyCheck_more (B b:Nat) (bs:List Value) (w:World) (h:Lib.IsBuilder 68 5 B b bs w) :
  Calls Tryz.prog 76 #[.pointer (some ⟨b,0,none⟩)] w fun e w'=>e=.returned (.tuple #[])∧(Lib.BuilderAt 68 5 B b (.pointer (some ⟨b,0,none⟩)) bs w'∧Below B w w'∧∀d,d≠b→w'.heap[d]?=w.heap[d]?):=by
 rcases h with h|h
 ·refine(copyCheck_fresh b w h.cell0 h.shape h.frozen0).mono ?_
  rintro e w' ⟨rfl,rfl⟩
  exact⟨rfl,h.used _,(Below.refl B w).setCell (p:=⟨b,0,none⟩) h.1 _,fun d hd=>Deep.blk_setCell_other _ ⟨b,0,none⟩ _ d hd⟩
 ·refine(copyCheck_used b w h.cell0).mono ?_
  rintro e w' ⟨rfl,rfl⟩
  exact⟨rfl,h,Below.refl B _,fun _ _=>rfl⟩
def BKeeps (w w':World):Prop:=∀d t cs,Box w d t cs→t≠68→t≠5→w'.heap[d]?=w.heap[d]?
set_option maxHeartbeats 2000000 in
set_option maxRecDepth 100000 in
theorem writeStr_more (B b:Nat) (bs:List Value) (s:ByteArray) (w:World) (h:Lib.IsBuilder 68 5 B b bs w) (hlen:bs.length+s.size≤70368744177664) (hBw:B≤w.heap.size) :
  Calls Tryz.prog 39 #[.pointer (some ⟨b,0,none⟩),.string s] w fun e w'=>e=.returned (.tuple #[.int .i64 s.size,.nilIface])∧(Lib.IsBuilder 68 5 B b (bs++Lib.strCells s) w'∧Below B w w'∧BKeeps w w'):=by
 obtain⟨i0,hi,hz0,hz1,hz2⟩:=u8_facts
 have HBT:Hid (∀d t cs,Box w d t cs→t≠68→d≠b):=fun d t cs hd ht e=>by
  subst e
  have hk:∃p v,w.heap[d]?=some (.cells #[p,v] 68 (0,0)):=by
   rcases h with⟨_,v,hk,_⟩|⟨_,v,hk,_⟩
   ·exact⟨_,_,hk⟩
   ·exact⟨_,_,hk⟩
  obtain⟨p,v,hk⟩:=hk
  have hd':w.heap[d]?=some (.cells cs t (0,0)):=hd
  rw[hk] at hd'
  injection hd' with hd'
  injection hd' with _ hd' _
  exact ht hd'.symm
 go_enter Tryz.func39,Tryz.ntmps39
 go_wp2_with (go_at_call 76;refine(copyCheck_more B b bs _ h).mono ?_)
 rintro e w1 ⟨rfl,h1,hb1,hk1⟩
 have HK1:=hide hk1
 obtain⟨hB,v,hbk,hown,hne⟩:=h1
 have c0:w1.cell? ⟨b,0,none⟩=some (.pointer (some ⟨b,0,none⟩)):=by rw[Lib.cell_of_heap hbk];rfl
 have c1:w1.cell? ⟨b,1,none⟩=some v:=by rw[Lib.cell_of_heap hbk];rfl
 clear hk1
 go_wp2_with (at_builtin;refine Lib.wpList_append_own_string _ rfl _ _ 22 9 rfl B 5 i0 Tryz.underlying22 Tryz.underlying9 hi hz0 hz1 hz2 _ _ _ rfl hown s rfl ?c3 ?c4 ?c5 ?_)
 case c3=>unfold maxLen;omega
 case c4=>omega
 case c5=>have:=hb1.size;omega
 intro v' w2 hown' hgrow _
 have hlt:b<w1.heap.size:=by
  rcases Nat.lt_or_ge b w1.heap.size with h'|h'
  ·exact h'
  ·simp[Array.getElem?_eq_none h'] at hbk
 have hb2:w2.heap[b]?=some (.cells #[.pointer (some ⟨b,0,none⟩),v] 68 (0,0)):=by
  rw[hgrow.block b hlt (fun e=>hne e.symm)]
  exact hbk
 have d0:w2.cell? ⟨b,0,none⟩=some (.pointer (some ⟨b,0,none⟩)):=by rw[Lib.cell_of_heap hb2];rfl
 have d1:w2.cell? ⟨b,1,none⟩=some v:=by rw[Lib.cell_of_heap hb2];rfl
 have f1:w2.frozen? ⟨b,1,none⟩=false:=Lib.frozen_of_heap hb2 1
 obtain⟨ao,n',cap,rfl⟩:∃ao n' cap,v'=.slice ao n' cap:=by
  rcases hown'.2 with⟨hv,_⟩|⟨g,cap,cur,hv,_⟩
  ·exact⟨_,_,_,hv⟩
  ·exact⟨_,_,_,hv⟩
 have HKP:Hid (∀x,BKeeps w (w2.setCell ⟨b,1,none⟩ x)):=fun x d t cs hd h1 h2=>by
  have hdb:=HBT.out d t cs hd h1
  have e1:w1.heap[d]?=w.heap[d]?:=HK1.out d hdb
  have hd':w.heap[d]?=some (.cells cs t (0,0)):=hd
  have hd1:w1.heap[d]?=some (.cells cs t (0,0)):=e1.trans hd'
  have hlt1:d<w1.heap.size:=by rw[Array.getElem?_eq_some_iff] at hd1;exact hd1.1
  have hnv:v.ownBlock≠some d:=fun e=>by
   obtain⟨_,⟨rfl,_⟩|⟨g,cap,cur,rfl,hg,hh,_⟩⟩:=hown
   ·simp[Value.ownBlock] at e
   ·simp[Value.ownBlock] at e
    subst e
    rw[hh] at hd1
    injection hd1 with hd1
    injection hd1 with _ hd1 _
    exact h2 hd1.symm
  rw[Deep.blk_setCell_other _ ⟨b,1,none⟩ _ d hdb,hgrow.block d hlt1 (fun e=>hnv e.symm),e1]
 go_wp2
 go_ret2
 refine⟨rfl,?_,?_,HKP.out _⟩
 ·exact .inr (Lib.BuilderAt.put (T:=68) (e:=5) hB hb2 (bs':=bs++Lib.strCells s) (by simpa [Lib.strCells_length] using hown') (by decide))
 ·exact(hb1.grown hgrow (by have:=hb1.size;omega) (fun k hk=>(hown.lt k hk).1)).setCell (p:=⟨b,1,none⟩) hB _
theorem BKeeps.fb {α:Type} {C:α→List Value} {c:Nat} {e:TypeId} {base:Nat} {w w':World} {v:Value} {xs:List α} (hk:BKeeps w w') (h:FB C c e base w v xs) (h1:e≠68:=by decide) (h2:e≠5:=by decide):FB C c e base w' v xs :=
 h.keep fun b hb=>by
  have hb':v.ownBlock=some b:=Option.mem_toList.1 hb
  obtain⟨_,⟨rfl,_⟩|⟨g,cap,cur,rfl,hg,hs,_⟩⟩:=h
  ·simp[Value.ownBlock] at hb'
  ·simp[Value.ownBlock] at hb'
   subst hb'
   exact hk g e cur hs h1 h2
end Go.Proofs.YtglcdcekkglmiaaGreatDoor.Msg
