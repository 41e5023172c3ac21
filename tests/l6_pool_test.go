package tests

import (
	"fmt"
	"math"
	"math/rand"
	"slices"
	"strings"
	"testing"

	"loop.example/s01639/impl"
)

// wantOf has a query that tells it from the others of its session.
func wantOf(client int, tag string, query int) impl.Want {
	return impl.Want{Client: client, Tag: tag, Query: fmt.Sprint(query)}
}

func busyOf(control string, w impl.Want, due int) impl.Conn {
	return impl.Conn{Busy: true, Control: control, Want: w, Due: due}
}

func poolOf(epoch, next int, conns []impl.Conn, queue ...impl.Want) impl.Pool {
	return impl.Pool{Epoch: epoch, Next: next, Conns: conns, Queue: queue}
}

func sentOf(conn int, control string, w impl.Want) impl.Sent {
	return impl.Sent{Conn: conn, Control: control, Want: w}
}

// poolCall is a call of Ask, Answer, Expire or Forget, by the first letter of
// its name; of the arguments it has those that the call takes.
type poolCall struct {
	name    byte
	want    impl.Want
	conn    int
	control string
	client  int
	tag     string
	now     int
}

// poolAnswer has what any of the four calls answers; the rest is zero.
type poolAnswer struct {
	pool  impl.Pool
	sent  []impl.Sent
	code  int
	want  impl.Want
	hit   bool
	lost  []impl.Want
	freed []int
}

func askFor(w impl.Want, now int) poolCall {
	return poolCall{name: 'A', want: w, now: now}
}

func replyOn(conn int, control, tag string, now int) poolCall {
	return poolCall{name: 'R', conn: conn, control: control, tag: tag, now: now}
}

func expireAt(now int) poolCall {
	return poolCall{name: 'E', now: now}
}

func forgetOf(client int, tag string, now int) poolCall {
	return poolCall{name: 'F', client: client, tag: tag, now: now}
}

// connAt is the zero Conn for what is no number of a connection.
func connAt(p impl.Pool, conn int) impl.Conn {
	if conn < 0 || conn >= len(p.Conns) {
		return impl.Conn{}
	}
	return p.Conns[conn]
}

func (c poolCall) do(p impl.Pool) poolAnswer {
	var a poolAnswer
	switch c.name {
	case 'A':
		a.pool, a.sent, a.code = impl.Ask(p, c.want, c.now)
	case 'R':
		a.pool, a.sent, a.want, a.hit = impl.Answer(p, c.conn, c.control, c.tag, c.now)
	case 'E':
		a.pool, a.sent, a.lost = impl.Expire(p, c.now)
	case 'F':
		a.pool, a.sent, a.freed = impl.Forget(p, c.client, c.tag, c.now)
	}
	return a
}

// refused is what the call answers if something is not valid.
func (c poolCall) refused() poolAnswer {
	if c.name == 'A' {
		return poolAnswer{code: 9}
	}
	return poolAnswer{}
}

func tellPool(p impl.Pool) string {
	return fmt.Sprintf("{epoch %d next %d conns %+v queue %+v}", p.Epoch, p.Next, p.Conns, p.Queue)
}

func tellAnswer(a poolAnswer) string {
	return brief(fmt.Sprintf("%s sent %+v code %d want %+v %v lost %+v freed %v", tellPool(a.pool), a.sent, a.code, a.want, a.hit, a.lost, a.freed))
}

func samePool(a, b impl.Pool) bool {
	return a.Epoch == b.Epoch && a.Next == b.Next && slices.Equal(a.Conns, b.Conns) && slices.Equal(a.Queue, b.Queue)
}

func sameAnswer(a, b poolAnswer) bool {
	return samePool(a.pool, b.pool) && slices.Equal(a.sent, b.sent) && a.code == b.code && a.want == b.want && a.hit == b.hit && slices.Equal(a.lost, b.lost) && slices.Equal(a.freed, b.freed)
}

func clonePool(p impl.Pool) impl.Pool {
	return poolOf(p.Epoch, p.Next, slices.Clone(p.Conns), slices.Clone(p.Queue)...)
}

func validWant(w impl.Want) bool {
	return w.Client >= 0 && w.Client <= 3 && ruleText(w.Tag, 1, 16) && ruleText(w.Query, 0, 200) && ruleText(w.Pointer, 0, 200)
}

// validPool lists what is wrong with a pool that is not valid.
func validPool(p impl.Pool) bool {
	wrong := []bool{len(p.Conns) == 0, len(p.Conns) > 4, p.Epoch < 0, p.Epoch > 1000000, p.Next < 0, p.Next > 1000000, len(p.Queue) > 16}
	for _, c := range p.Conns {
		if c.Busy {
			wrong = append(wrong, !ruleText(c.Control, 1, 20), !validWant(c.Want), c.Due < 0, c.Due > 1000000000)
		} else {
			wrong = append(wrong, c.Control != "", c.Want != impl.Want{}, c.Due != 0, len(p.Queue) != 0)
		}
	}
	for _, w := range p.Queue {
		wrong = append(wrong, !validWant(w))
	}
	return !slices.Contains(wrong, true)
}

func (c poolCall) valid(p impl.Pool) bool {
	switch {
	case !validPool(p) || c.now < 0 || c.now > 900000000:
		return false
	case c.name == 'A':
		return validWant(c.want)
	case c.name == 'F':
		return c.client >= 0 && c.client <= 3 && ruleText(c.tag, 1, 16)
	}
	return true
}

// rule is the answer by a second reading of the document: the connections are
// gone through by number, and each is asked anew whether it is free.
func (c poolCall) rule(p impl.Pool) poolAnswer {
	if !c.valid(p) {
		return c.refused()
	}
	a := poolAnswer{pool: clonePool(p)}
	free := slices.IndexFunc(p.Conns, func(conn impl.Conn) bool { return !conn.Busy })
	switch c.name {
	case 'A':
		if free < 0 && len(p.Queue) == 16 {
			a.code = 1
		} else if free < 0 {
			a.pool.Queue = append(a.pool.Queue, c.want)
		} else {
			a.ruleSend(free, c.want, c.now)
		}
	case 'R':
		if c.conn >= 0 && c.conn < len(p.Conns) && p.Conns[c.conn].Busy && p.Conns[c.conn].Control == c.control && p.Conns[c.conn].Want.Tag == c.tag {
			a.want, a.hit = p.Conns[c.conn].Want, true
			a.pool.Conns[c.conn] = impl.Conn{}
		}
	case 'E':
		for i, conn := range p.Conns {
			if conn.Busy && conn.Due <= c.now {
				a.lost = append(a.lost, conn.Want)
				a.pool.Conns[i] = impl.Conn{}
			}
		}
	case 'F':
		a.ruleForget(p, c)
	}
	a.ruleServe(c.now)
	return a
}

func (a *poolAnswer) ruleSend(conn int, w impl.Want, now int) {
	control := fmt.Sprintf("U%d-%d", a.pool.Epoch, a.pool.Next)
	a.pool.Next++
	a.pool.Conns[conn] = busyOf(control, w, now+30)
	a.sent = append(a.sent, sentOf(conn, control, w))
}

func (a *poolAnswer) ruleServe(now int) {
	for i, conn := range a.pool.Conns {
		if !conn.Busy && len(a.pool.Queue) > 0 {
			a.ruleSend(i, a.pool.Queue[0], now)
			a.pool.Queue = a.pool.Queue[1:]
		}
	}
}

func (a *poolAnswer) ruleForget(p impl.Pool, c poolCall) {
	a.pool.Queue = nil
	for _, w := range p.Queue {
		if w.Client != c.client || w.Tag != c.tag {
			a.pool.Queue = append(a.pool.Queue, w)
		}
	}
	for i, conn := range p.Conns {
		if conn.Busy && conn.Want.Client == c.client && conn.Want.Tag == c.tag {
			a.freed = append(a.freed, i)
			a.pool.Conns[i] = impl.Conn{}
		}
	}
}

func checkCall(t *testing.T, p impl.Pool, c poolCall, want poolAnswer) poolAnswer {
	t.Helper()
	got := c.do(p)
	if !sameAnswer(got, want) {
		t.Fatalf("%c %s of %s: %s, want %s", c.name, brief(fmt.Sprintf("%+v", c)), tellPool(p), tellAnswer(got), tellAnswer(want))
	}
	return got
}

func checkCallRule(t *testing.T, p impl.Pool, c poolCall) poolAnswer {
	t.Helper()
	return checkCall(t, p, c, c.rule(p))
}

func TestNewPool(t *testing.T) {
	for _, epoch := range []int{math.MinInt, -1, 0, 1, 999999, 1000000, 1000001, math.MaxInt} {
		for _, conns := range []int{math.MinInt, -1, 0, 1, 2, 3, 4, 5, math.MaxInt} {
			want := impl.Pool{}
			if epoch >= 0 && epoch <= 1000000 && conns >= 1 && conns <= 4 {
				want = poolOf(epoch, 0, make([]impl.Conn, conns))
			}
			if got := impl.NewPool(epoch, conns); !samePool(got, want) {
				t.Errorf("NewPool(%d, %d): %s, want %s", epoch, conns, tellPool(got), tellPool(want))
			}
		}
	}
}

// someCalls has a call of each name that does something to fullPool.
func someCalls() []poolCall {
	return []poolCall{askFor(wantOf(3, "new", 9), 50), replyOn(1, "U7-4", "b", 50), expireAt(50), forgetOf(1, "b", 50)}
}

// fullPool has two connections, both busy, and two wants that wait.
func fullPool() impl.Pool {
	return poolOf(7, 5, []impl.Conn{busyOf("U7-3", wantOf(0, "a", 0), 40), busyOf("U7-4", wantOf(1, "b", 1), 60)}, wantOf(1, "b", 2), wantOf(2, "c", 3))
}

// freePool has a connection that is free between two that are busy.
func freePool() impl.Pool {
	return poolOf(7, 5, []impl.Conn{busyOf("U7-3", wantOf(0, "a", 0), 40), {}, busyOf("U7-4", wantOf(1, "b", 1), 60)})
}

func TestSomeCallsDoSomething(t *testing.T) {
	a, b, b2, c, more := wantOf(0, "a", 0), wantOf(1, "b", 1), wantOf(1, "b", 2), wantOf(2, "c", 3), wantOf(3, "new", 9)
	calls := someCalls()
	left, right := busyOf("U7-3", a, 40), busyOf("U7-4", b, 60)
	checkCall(t, fullPool(), calls[0], poolAnswer{pool: poolOf(7, 5, []impl.Conn{left, right}, b2, c, more)})
	checkCall(t, fullPool(), calls[1], poolAnswer{
		pool: poolOf(7, 6, []impl.Conn{left, busyOf("U7-5", b2, 80)}, c),
		sent: []impl.Sent{sentOf(1, "U7-5", b2)}, want: b, hit: true})
	checkCall(t, fullPool(), calls[2], poolAnswer{
		pool: poolOf(7, 6, []impl.Conn{busyOf("U7-5", b2, 80), right}, c),
		sent: []impl.Sent{sentOf(0, "U7-5", b2)}, lost: []impl.Want{a}})
	checkCall(t, fullPool(), calls[3], poolAnswer{
		pool: poolOf(7, 6, []impl.Conn{left, busyOf("U7-5", c, 80)}),
		sent: []impl.Sent{sentOf(1, "U7-5", c)}, freed: []int{1}})
	for _, call := range calls {
		checkCallRule(t, fullPool(), call)
	}
}

// changed is a pool with one thing that is other than it was.
func changed(p impl.Pool, change func(p *impl.Pool)) impl.Pool {
	p = clonePool(p)
	change(&p)
	return p
}

// badWants has every reason for which a want is not valid.
func badWants() []impl.Want {
	bad := []impl.Want{{}}
	add := func(change func(w *impl.Want)) {
		w := impl.Want{Client: 1, Tag: "b", Query: "1", Pointer: "p"}
		change(&w)
		bad = append(bad, w)
	}
	for _, client := range []int{math.MinInt, -1, 4, math.MaxInt} {
		add(func(w *impl.Want) { w.Client = client })
	}
	for _, tag := range []string{"", longTag, "a\x1f", "\x7f", "é", "b\n"} {
		add(func(w *impl.Want) { w.Tag = tag })
	}
	for _, text := range []string{longText, "a\x1f", "\x7f", "é", "b\n"} {
		add(func(w *impl.Want) { w.Query = text })
		add(func(w *impl.Want) { w.Pointer = text })
	}
	return bad
}

// edgeWants are valid, each at a limit.
func edgeWants() []impl.Want {
	return []impl.Want{
		{Client: 0, Tag: "b"}, {Client: 3, Tag: longTag[1:]}, {Client: 1, Tag: " ~"},
		{Client: 1, Tag: "b", Query: longText[1:]}, {Client: 1, Tag: "b", Pointer: longText[1:]}, {Client: 2, Tag: "b", Query: " ~", Pointer: "~ "},
	}
}

// badPools has every reason for which a pool is not valid, each in a pool that
// has nothing else wrong with it.
func badPools() []impl.Pool {
	bad := []impl.Pool{{}, poolOf(0, 0, nil), poolOf(7, 5, make([]impl.Conn, 5)), poolOf(7, 5, nil, wantOf(1, "b", 1)),
		poolOf(7, 5, times(5, busyOf("U7-3", wantOf(1, "b", 0), 40)), wantOf(1, "b", 1))}
	add := func(p impl.Pool, change func(p *impl.Pool)) { bad = append(bad, changed(p, change)) }
	for _, p := range []impl.Pool{fullPool(), freePool(), impl.NewPool(3, 4)} {
		for _, n := range []int{math.MinInt, -1, 1000001, math.MaxInt} {
			add(p, func(p *impl.Pool) { p.Epoch = n })
			add(p, func(p *impl.Pool) { p.Next = n })
		}
	}
	for i := range 2 {
		for _, w := range badWants() {
			add(fullPool(), func(p *impl.Pool) { p.Queue[i] = w })
			add(fullPool(), func(p *impl.Pool) { p.Conns[i].Want = w })
			add(freePool(), func(p *impl.Pool) { p.Conns[2*i].Want = w })
		}
		for _, control := range []string{"", strings.Repeat("c", 21), "U7\n", "é"} {
			add(fullPool(), func(p *impl.Pool) { p.Conns[i].Control = control })
			add(freePool(), func(p *impl.Pool) { p.Conns[2*i].Control = control })
		}
		for _, due := range []int{math.MinInt, -1, 1000000001, math.MaxInt} {
			add(fullPool(), func(p *impl.Pool) { p.Conns[i].Due = due })
			add(freePool(), func(p *impl.Pool) { p.Conns[2*i].Due = due })
		}
		add(fullPool(), func(p *impl.Pool) { p.Conns[i] = impl.Conn{} })
		add(fullPool(), func(p *impl.Pool) { p.Conns[i] = impl.Conn{}; p.Queue = p.Queue[:1] })
		add(fullPool(), func(p *impl.Pool) { p.Conns[i].Busy = false; p.Queue = nil })
	}
	add(fullPool(), func(p *impl.Pool) { p.Queue = times(17, wantOf(1, "b", 2)) })
	add(fullPool(), func(p *impl.Pool) { p.Queue = append(times(16, wantOf(1, "b", 2)), impl.Want{}) })
	for _, c := range []impl.Conn{{Control: "U7-5"}, {Due: 1}, {Due: -1}, {Want: impl.Want{Client: 1}}, {Want: impl.Want{Tag: "b"}}, {Want: impl.Want{Query: "q"}}, {Want: impl.Want{Pointer: "p"}}} {
		add(freePool(), func(p *impl.Pool) { p.Conns[1] = c })
		add(impl.NewPool(7, 4), func(p *impl.Pool) { p.Conns[3] = c })
	}
	return bad
}

func TestPoolsThatAreNotValid(t *testing.T) {
	for _, p := range badPools() {
		if validPool(p) {
			t.Fatalf("%s is valid", tellPool(p))
		}
		for _, c := range append(someCalls(), askFor(wantOf(0, "a", 1), 0), replyOn(-1, "", "", 0), replyOn(0, connAt(p, 0).Control, connAt(p, 0).Want.Tag, 0), expireAt(900000000), forgetOf(3, "other", 0)) {
			checkCall(t, p, c, c.refused())
		}
	}
}

// edgePools are valid, each at a limit.
func edgePools() []impl.Pool {
	edge := []impl.Pool{fullPool(), freePool()}
	add := func(change func(p *impl.Pool)) { edge = append(edge, changed(fullPool(), change)) }
	for conns := 1; conns <= 4; conns++ {
		edge = append(edge, impl.NewPool(0, conns), impl.NewPool(1000000, conns))
		busy := times(conns, busyOf("U7-4", wantOf(1, "b", 1), 50))
		edge = append(edge, poolOf(7, 0, busy), poolOf(0, 1000000, busy), poolOf(7, 5, busy, times(16, wantOf(1, "b", 2))...), poolOf(7, 5, busy, times(15, wantOf(2, "b", 2))...))
	}
	for _, w := range edgeWants() {
		add(func(p *impl.Pool) { p.Queue[0] = w })
		add(func(p *impl.Pool) { p.Conns[1].Want = w })
	}
	for _, control := range []string{"c", strings.Repeat("c", 20), " ~"} {
		add(func(p *impl.Pool) { p.Conns[1].Control = control })
	}
	for _, due := range []int{0, 1, 899999999, 900000000, 900000001, 1000000000} {
		add(func(p *impl.Pool) { p.Conns[1].Due = due })
	}
	return edge
}

func TestPoolsAtTheirLimits(t *testing.T) {
	for _, p := range edgePools() {
		if !validPool(p) {
			t.Fatalf("%s is not valid", tellPool(p))
		}
		for _, c := range someCalls() {
			if len(checkCallRule(t, p, c).pool.Conns) != len(p.Conns) {
				t.Fatalf("%s was not taken", tellPool(p))
			}
		}
		for i, conn := range p.Conns {
			if conn.Busy && !checkCallRule(t, p, replyOn(i, conn.Control, conn.Want.Tag, 50)).hit {
				t.Fatalf("%s: connection %d was not answered", tellPool(p), i)
			}
		}
	}
}

func TestTimesAtTheirLimits(t *testing.T) {
	for _, p := range []impl.Pool{fullPool(), freePool(), impl.NewPool(0, 1)} {
		for _, c := range append(someCalls(), replyOn(-1, "", "", 0), forgetOf(3, "none", 0)) {
			for _, now := range []int{0, 1, 899999999, 900000000} {
				c.now = now
				got := checkCallRule(t, p, c)
				for _, s := range got.sent {
					if due := got.pool.Conns[s.Conn].Due; due != now+30 {
						t.Fatalf("%d: due at %d", now, due)
					}
				}
				if len(got.pool.Conns) != len(p.Conns) {
					t.Fatalf("%d was not taken", now)
				}
			}
			for _, now := range []int{math.MinInt, -1, 900000001, 900000031, math.MaxInt - 29, math.MaxInt} {
				c.now = now
				checkCall(t, p, c, c.refused())
			}
		}
	}
}

func TestWantsThatAreNotValid(t *testing.T) {
	full := changed(fullPool(), func(p *impl.Pool) { p.Queue = times(16, wantOf(1, "b", 2)) })
	for _, p := range []impl.Pool{fullPool(), freePool(), impl.NewPool(0, 1), full} {
		for _, w := range badWants() {
			checkCall(t, p, askFor(w, 50), poolAnswer{code: impl.PoolInvalid})
		}
		for _, w := range edgeWants() {
			checkCallRule(t, p, askFor(w, 50))
		}
	}
	for _, w := range edgeWants() {
		got, sent, code := impl.Ask(impl.NewPool(1, 1), w, 0)
		if want := poolOf(1, 1, []impl.Conn{busyOf("U1-0", w, 30)}); !samePool(got, want) || code != impl.PoolOk || !slices.Equal(sent, []impl.Sent{sentOf(0, "U1-0", w)}) {
			t.Errorf("%+v: %s, %+v, %d", w, tellPool(got), sent, code)
		}
	}
}

func TestForgetOfWhatIsNone(t *testing.T) {
	for _, p := range []impl.Pool{fullPool(), freePool(), impl.NewPool(0, 1)} {
		for _, client := range []int{math.MinInt, -1, 4, math.MaxInt} {
			checkCall(t, p, forgetOf(client, "b", 50), poolAnswer{})
		}
		for _, tag := range []string{"", longTag, "b\n", "\x7f"} {
			checkCall(t, p, forgetOf(1, tag, 50), poolAnswer{})
			checkCall(t, p, forgetOf(0, tag, 50), poolAnswer{})
		}
		for client := range 4 {
			for _, tag := range []string{"a", "b", longTag[1:], " ", "~"} {
				checkCallRule(t, p, forgetOf(client, tag, 50))
			}
		}
	}
}

// eachBusy has a pool for every choice of busy connections among n, all with
// their own wants.
func eachBusy(n int) []impl.Pool {
	pools := []impl.Pool{}
	for set := range 1 << n {
		p := poolOf(3, 20, make([]impl.Conn, n))
		for i := range n {
			if set>>i&1 == 1 {
				p.Conns[i] = busyOf(fmt.Sprintf("U3-%d", 10+i), wantOf(i%2, "t", i), 40+10*(i%3))
			}
		}
		pools = append(pools, p)
	}
	return pools
}

func TestAskTakesTheLowestFreeConnection(t *testing.T) {
	w := impl.Want{Client: 2, Tag: "tag", Query: "query", Pointer: "pointer"}
	for n := 1; n <= 4; n++ {
		for _, p := range eachBusy(n) {
			want := poolAnswer{pool: clonePool(p)}
			lowest := slices.Index(p.Conns, impl.Conn{})
			if lowest < 0 {
				want.pool.Queue = []impl.Want{w}
			} else {
				want.pool.Next = 21
				want.pool.Conns[lowest] = busyOf("U3-20", w, 47)
				want.sent = []impl.Sent{sentOf(lowest, "U3-20", w)}
			}
			checkCall(t, p, askFor(w, 17), want)
		}
	}
}

func TestAskUpToTheQueuesLimit(t *testing.T) {
	for conns := 1; conns <= 4; conns++ {
		p := impl.NewPool(12, conns)
		wants := []impl.Want{}
		for i := range conns + 16 {
			w := wantOf(i%4, "t", i)
			want := clonePool(p)
			var sent []impl.Sent
			if i < conns {
				control := fmt.Sprintf("U12-%d", i)
				want.Conns[i], want.Next, sent = busyOf(control, w, i+30), i+1, []impl.Sent{sentOf(i, control, w)}
			} else {
				wants = append(wants, w)
				want.Queue = slices.Clone(wants)
			}
			p = checkCall(t, p, askFor(w, i), poolAnswer{pool: want, sent: sent}).pool
		}
		for range 2 {
			p = checkCall(t, p, askFor(wantOf(0, "more", 0), 50), poolAnswer{pool: p, code: impl.PoolFull}).pool
		}
		p = checkCallRule(t, p, replyOn(0, "U12-0", "t", 50)).pool
		p = checkCall(t, p, askFor(wantOf(0, "more", 0), 50), poolAnswer{pool: changed(p, func(p *impl.Pool) { p.Queue = append(p.Queue, wantOf(0, "more", 0)) })}).pool
		checkCall(t, p, askFor(wantOf(0, "more", 0), 50), poolAnswer{pool: p, code: impl.PoolFull})
	}
}

// What is sent last takes Next past its limit, and the pool is not valid then.
func TestNextAtItsLimit(t *testing.T) {
	w := wantOf(1, "b", 1)
	for _, next := range []int{999999, 1000000} {
		control := fmt.Sprintf("U1000000-%d", next)
		p := impl.NewPool(1000000, 2)
		p.Next = next
		got := checkCall(t, p, askFor(w, 900000000), poolAnswer{
			pool: poolOf(1000000, next+1, []impl.Conn{busyOf(control, w, 900000030), {}}),
			sent: []impl.Sent{sentOf(0, control, w)}}).pool
		for _, c := range append(someCalls(), replyOn(0, control, "b", 0)) {
			checkCallRule(t, got, c)
			if next == 1000000 {
				checkCall(t, got, c, c.refused())
			}
		}
	}
	conns := times(4, busyOf("c", w, 10))
	p := poolOf(1000000, 1000000, conns, times(5, wantOf(2, "c", 2))...)
	got := checkCallRule(t, p, expireAt(10))
	if got.pool.Next != 1000004 || len(got.sent) != 4 || got.sent[3].Control != "U1000000-1000003" {
		t.Errorf("%s", tellAnswer(got))
	}
	// Where nothing is sent, Next stays.
	if got := checkCallRule(t, p, expireAt(9)); got.pool.Next != 1000000 {
		t.Errorf("%s", tellAnswer(got))
	}
}

func TestAnswerOfRepliesThatAreStale(t *testing.T) {
	conns := []int{math.MinInt, -1, 0, 1, 2, 3, 4, math.MaxInt}
	controls := []string{"", "U7-3", "U7-4", "U7-5", "u7-3", "U7-3 ", "U7-", strings.Repeat("c", 100), "\n"}
	tags := []string{"", "a", "b", "c", "A", "a ", longTag, "\n"}
	for _, p := range []impl.Pool{fullPool(), freePool(), impl.NewPool(7, 3), poolOf(7, 5, []impl.Conn{{}, {}, {}, busyOf("U7-3", wantOf(0, "a", 0), 40)})} {
		hits := 0
		for _, conn := range conns {
			for _, control := range controls {
				for _, tag := range tags {
					if got := checkCallRule(t, p, replyOn(conn, control, tag, 50)); got.hit {
						hits++
						continue
					}
					checkCall(t, p, replyOn(conn, control, tag, 50), poolAnswer{pool: p})
				}
			}
		}
		busy := 0
		for _, conn := range p.Conns {
			if conn.Busy {
				busy++
			}
		}
		if hits != busy {
			t.Errorf("%s: %d replies were taken", tellPool(p), hits)
		}
	}
}

// Two connections may have the same control; the reply is the one's on which it came.
func TestAnswerOfTheSameControlTwice(t *testing.T) {
	p := poolOf(7, 5, []impl.Conn{busyOf("same", wantOf(0, "a", 0), 40), busyOf("same", wantOf(0, "a", 1), 40), busyOf("same", wantOf(0, "b", 2), 40)}, wantOf(3, "z", 3))
	for i, tag := range []string{"a", "a", "b"} {
		got := checkCallRule(t, p, replyOn(i, "same", tag, 50))
		if got.want != p.Conns[i].Want || !slices.Equal(got.sent, []impl.Sent{sentOf(i, "U7-5", wantOf(3, "z", 3))}) {
			t.Errorf("%d: %s", i, tellAnswer(got))
		}
	}
	checkCall(t, p, replyOn(0, "same", "b", 50), poolAnswer{pool: p})
	checkCall(t, p, replyOn(2, "same", "a", 50), poolAnswer{pool: p})
}

func TestAnswerFreesTheConnection(t *testing.T) {
	for n := 1; n <= 4; n++ {
		for _, p := range eachBusy(n) {
			for i, conn := range p.Conns {
				if !conn.Busy {
					continue
				}
				// An empty queue: the connection stays free. The same reply once more is stale.
				free := changed(p, func(p *impl.Pool) { p.Conns[i] = impl.Conn{} })
				reply := replyOn(i, conn.Control, "t", 1000)
				checkCall(t, p, reply, poolAnswer{pool: free, want: conn.Want, hit: true})
				checkCall(t, free, reply, poolAnswer{pool: free})
				if slices.Contains(p.Conns, impl.Conn{}) {
					continue
				}
				// Wants that wait: the first goes out on it.
				first, second := wantOf(3, "first", 8), wantOf(3, "second", 9)
				waits := changed(p, func(p *impl.Pool) { p.Queue = []impl.Want{first, second} })
				served := changed(p, func(p *impl.Pool) {
					p.Next, p.Conns[i], p.Queue = 21, busyOf("U3-20", first, 1030), []impl.Want{second}
				})
				checkCall(t, waits, reply, poolAnswer{pool: served, sent: []impl.Sent{sentOf(i, "U3-20", first)}, want: conn.Want, hit: true})
				checkCall(t, served, reply, poolAnswer{pool: served})
			}
		}
	}
}

func TestExpireAroundDue(t *testing.T) {
	for _, due := range []int{0, 1, 30, 900000000, 900000001, 900000030, 1000000000} {
		p := poolOf(7, 5, []impl.Conn{{}, busyOf("U7-4", wantOf(1, "b", 1), due)})
		for _, now := range []int{due - 1, due, due + 1} {
			want := poolAnswer{pool: p}
			switch {
			case now < 0 || now > 900000000:
				want = poolAnswer{}
			case now >= due:
				want = poolAnswer{pool: poolOf(7, 5, make([]impl.Conn, 2)), lost: []impl.Want{wantOf(1, "b", 1)}}
			}
			checkCall(t, p, expireAt(now), want)
		}
	}
}

// Every choice of connections that are due, just before, at and behind now, and
// of those that are free, with queues of every length up to one more than there
// are connections.
func TestExpireOfEachChoice(t *testing.T) {
	seen := [5][6]int{}
	for n := 1; n <= 4; n++ {
		for choice := range 1 << (2 * n) {
			p := poolOf(3, 20, make([]impl.Conn, n))
			for i := range n {
				if kind := choice >> (2 * i) & 3; kind != 3 {
					p.Conns[i] = busyOf(fmt.Sprintf("U3-%d", 10+i), wantOf(i, "t", i), 99+kind)
				}
			}
			for waits := range n + 2 {
				if waits > 0 && slices.Contains(p.Conns, impl.Conn{}) {
					break
				}
				p.Queue = nil
				for i := range waits {
					p.Queue = append(p.Queue, wantOf(3, "w", i))
				}
				got := checkCallRule(t, p, expireAt(100))
				seen[len(got.lost)][waits]++
			}
		}
	}
	for lost := range 5 {
		for waits := range 6 {
			if seen[lost][waits] == 0 {
				t.Errorf("no pool with %d lost and %d waiting", lost, waits)
			}
		}
	}
}

func TestExpireInOrder(t *testing.T) {
	wants := []impl.Want{wantOf(3, "x", 0), wantOf(1, "y", 1), wantOf(2, "x", 2), wantOf(0, "y", 3)}
	conns := []impl.Conn{busyOf("d", wants[0], 60), busyOf("c", wants[1], 90), busyOf("b", wants[2], 40), busyOf("a", wants[3], 50)}
	p := poolOf(2, 8, conns, wantOf(0, "q", 4), wantOf(0, "q", 5), wantOf(0, "q", 6), wantOf(0, "q", 7), wantOf(0, "q", 8))
	checkCall(t, p, expireAt(60), poolAnswer{
		pool: poolOf(2, 11, []impl.Conn{busyOf("U2-8", p.Queue[0], 90), conns[1], busyOf("U2-9", p.Queue[1], 90), busyOf("U2-10", p.Queue[2], 90)}, p.Queue[3:]...),
		sent: []impl.Sent{sentOf(0, "U2-8", p.Queue[0]), sentOf(2, "U2-9", p.Queue[1]), sentOf(3, "U2-10", p.Queue[2])},
		lost: []impl.Want{wants[0], wants[2], wants[3]}})
	p.Queue = p.Queue[:2]
	checkCall(t, p, expireAt(90), poolAnswer{
		pool: poolOf(2, 10, []impl.Conn{busyOf("U2-8", p.Queue[0], 120), busyOf("U2-9", p.Queue[1], 120), {}, {}}),
		sent: []impl.Sent{sentOf(0, "U2-8", p.Queue[0]), sentOf(1, "U2-9", p.Queue[1])},
		lost: wants})
	// What came to be due together with others is sent on the lowest of all that are free.
	p.Queue = nil
	checkCall(t, p, expireAt(39), poolAnswer{pool: p})
	checkCall(t, p, expireAt(40), poolAnswer{pool: changed(p, func(p *impl.Pool) { p.Conns[2] = impl.Conn{} }), lost: wants[2:3]})
}

// Every choice, for each connection and each place in the queue, among the
// session, the same tag under another client, another tag of the client, and a
// free connection.
func TestForgetOfEachChoice(t *testing.T) {
	sessions := []impl.Want{{Client: 1, Tag: "b"}, {Client: 2, Tag: "b"}, {Client: 1, Tag: "bb"}}
	both := 0
	for n := 1; n <= 4; n++ {
		for choice := range 1 << (2 * n) {
			conns := make([]impl.Conn, n)
			for i := range n {
				if kind := choice >> (2 * i) & 3; kind != 3 {
					w := sessions[kind]
					w.Pointer = fmt.Sprint(i)
					conns[i] = busyOf(fmt.Sprintf("U3-%d", 10+i), w, 99)
				}
			}
			waits := []int{1, 3, 9, 27}
			if slices.Contains(conns, impl.Conn{}) {
				waits = []int{1}
			}
			for length, ways := range waits {
				for way := range ways {
					queue := []impl.Want{}
					for i := range length {
						w := sessions[way%3]
						w.Query = fmt.Sprint(i)
						queue = append(queue, w)
						way /= 3
					}
					p := poolOf(3, 20, conns, queue...)
					got := checkCallRule(t, p, forgetOf(1, "b", 50))
					if len(got.freed) > 0 && len(got.sent) > 0 && len(p.Queue) > len(got.sent)+len(got.pool.Queue) {
						both++
					}
				}
			}
		}
	}
	if both < 1000 {
		t.Errorf("only %d pools had the session on connections and in the queue, and served others", both)
	}
}

func TestForgetWritten(t *testing.T) {
	mine, other, others := func(i int) impl.Want { return wantOf(1, "b", i) }, wantOf(2, "b", 7), wantOf(1, "B", 8)
	conns := []impl.Conn{busyOf("c", mine(0), 10), busyOf("d", other, 10), busyOf("e", mine(1), 10)}
	p := poolOf(0, 3, conns, mine(2), other, mine(3), mine(4), others, wantOf(0, "z", 9), mine(5))
	// The session is on connections and in the queue; what is left of the queue is served.
	checkCall(t, p, forgetOf(1, "b", 5), poolAnswer{
		pool: poolOf(0, 5, []impl.Conn{busyOf("U0-3", other, 35), conns[1], busyOf("U0-4", others, 35)}, wantOf(0, "z", 9)),
		sent: []impl.Sent{sentOf(0, "U0-3", other), sentOf(2, "U0-4", others)}, freed: []int{0, 2}})
	// In the queue alone.
	checkCall(t, p, forgetOf(1, "B", 5), poolAnswer{pool: poolOf(0, 3, conns, mine(2), other, mine(3), mine(4), wantOf(0, "z", 9), mine(5))})
	// The same tag under another client.
	checkCall(t, p, forgetOf(2, "b", 5), poolAnswer{
		pool: poolOf(0, 4, []impl.Conn{conns[0], busyOf("U0-3", mine(2), 35), conns[2]}, mine(3), mine(4), others, wantOf(0, "z", 9), mine(5)),
		sent: []impl.Sent{sentOf(1, "U0-3", mine(2))}, freed: []int{1}})
	// Nowhere.
	for _, c := range []poolCall{forgetOf(0, "b", 5), forgetOf(1, "bb", 5), forgetOf(3, "z", 5)} {
		checkCall(t, p, c, poolAnswer{pool: p})
	}
	// On connections alone, and nothing is left to be served.
	checkCall(t, poolOf(0, 3, conns), forgetOf(1, "b", 5), poolAnswer{pool: poolOf(0, 3, []impl.Conn{{}, conns[1], {}}), freed: []int{0, 2}})
	all := poolOf(0, 3, times(4, conns[0]), times(16, mine(2))...)
	checkCall(t, all, forgetOf(1, "b", 5), poolAnswer{pool: impl.Pool{Epoch: 0, Next: 3, Conns: make([]impl.Conn, 4)}, freed: []int{0, 1, 2, 3}})
}

func randomWant(r *rand.Rand) impl.Want {
	return impl.Want{Client: r.Intn(4), Tag: randomTag(r), Query: randomText(r, 0, 4), Pointer: randomText(r, 0, 4)}
}

func randomPool(r *rand.Rand) impl.Pool {
	p := poolOf(r.Intn(1000001), r.Intn(1000001), make([]impl.Conn, 1+r.Intn(4)))
	free := 0
	for i := range p.Conns {
		if r.Intn(5) == 0 {
			free++
			continue
		}
		p.Conns[i] = busyOf(randomText(r, 1, 3), randomWant(r), r.Intn(100))
	}
	if free == 0 {
		for range r.Intn(17) {
			p.Queue = append(p.Queue, randomWant(r))
		}
	}
	return p
}

// poolOfAnyKind is valid, but for one in twenty.
func poolOfAnyKind(r *rand.Rand, bad []impl.Pool) impl.Pool {
	if r.Intn(20) == 0 {
		return bad[r.Intn(len(bad))]
	}
	return randomPool(r)
}

func randomCall(r *rand.Rand, p impl.Pool) poolCall {
	now := r.Intn(100)
	conn := r.Intn(len(p.Conns)+2) - 1
	control, tag := randomText(r, 0, 3), randomTag(r)
	if at := connAt(p, conn); r.Intn(3) > 0 {
		control, tag = at.Control, at.Want.Tag
	}
	return []poolCall{askFor(randomWant(r), now), replyOn(conn, control, tag, now), expireAt(now), forgetOf(r.Intn(4), randomTag(r), now)}[r.Intn(4)]
}

func TestCallsOfRandomPools(t *testing.T) {
	r := rand.New(rand.NewSource(61))
	bad := badPools()
	for range 60000 {
		p := poolOfAnyKind(r, bad)
		c := randomCall(r, p)
		got := checkCallRule(t, p, c)
		if got.pool.Next <= 1000000 && len(got.pool.Conns) > 0 && !validPool(got.pool) {
			t.Fatalf("%s is not valid", tellPool(got.pool))
		}
	}
}

// ledger is what a run of calls on one pool has come to, by the promises alone:
// wants are told from each other by their queries.
type ledger struct {
	t        *testing.T
	pool     impl.Pool
	asked    int
	waiting  []impl.Want
	out      map[int]impl.Sent
	past     []impl.Sent
	controls map[string]int
	ended    map[string]int
	counts   map[string]int
}

func newLedger(t *testing.T, epoch, conns int) *ledger {
	return &ledger{t: t, pool: impl.NewPool(epoch, conns), out: map[int]impl.Sent{}, controls: map[string]int{}, ended: map[string]int{}, counts: map[string]int{}}
}

// sends asks that what was sent was first in line, on a connection that has
// nothing out, with a control that was not given before.
func (l *ledger) sends(sent []impl.Sent) {
	for _, s := range sent {
		if len(l.waiting) == 0 || s.Want != l.waiting[0] {
			l.t.Fatalf("sent %+v, but %+v waits", s, l.waiting)
		}
		l.waiting = l.waiting[1:]
		if _, busy := l.out[s.Conn]; busy || s.Conn < 0 || s.Conn >= len(l.pool.Conns) {
			l.t.Fatalf("sent %+v on a connection that is not free", s)
		}
		l.controls[s.Control]++
		if l.controls[s.Control] != 1 {
			l.t.Fatalf("control %q was given twice", s.Control)
		}
		l.out[s.Conn] = s
		l.counts["sent"]++
	}
}

// ends takes what was sent on a connection as answered, lost or forgotten.
func (l *ledger) ends(conn int, w impl.Want, how string) {
	s, busy := l.out[conn]
	if !busy || s.Want != w {
		l.t.Fatalf("%s %+v on connection %d, but %+v is out", how, w, conn, s)
	}
	delete(l.out, conn)
	l.past = append(l.past, s)
	l.ended[w.Query]++
	l.counts[how]++
}

// agrees asks that the pool holds what is out and what waits, and nothing more.
func (l *ledger) agrees(p impl.Pool) {
	for i, conn := range p.Conns {
		s, busy := l.out[i]
		if conn.Busy != busy || busy && (conn.Control != s.Control || conn.Want != s.Want) {
			l.t.Fatalf("connection %d is %+v, but %+v is out", i, conn, s)
		}
	}
	if !slices.Equal(p.Queue, l.waiting) || len(l.waiting) > 0 && len(l.out) < len(p.Conns) {
		l.t.Fatalf("%s, but %+v waits", tellPool(p), l.waiting)
	}
	if !validPool(p) {
		l.t.Fatalf("%s is not valid", tellPool(p))
	}
	l.pool = p
}

func (l *ledger) ask(r *rand.Rand, now int) {
	w := impl.Want{Client: r.Intn(2), Tag: []string{"a", "b", "c"}[r.Intn(3)], Query: fmt.Sprint(l.asked)}
	p, sent, code := impl.Ask(l.pool, w, now)
	if full := len(l.out) == len(l.pool.Conns) && len(l.waiting) == 16; full {
		if code != impl.PoolFull || !samePool(p, l.pool) || len(sent) != 0 {
			l.t.Fatalf("a full pool took a want: %d %s", code, tellPool(p))
		}
		l.counts["full"]++
		return
	}
	if code != impl.PoolOk {
		l.t.Fatalf("code %d of %s", code, tellPool(l.pool))
	}
	l.asked++
	l.waiting = append(slices.Clone(l.waiting), w)
	l.sends(sent)
	l.agrees(p)
}

// reply answers what is out, what was out once, or something in between.
func (l *ledger) reply(r *rand.Rand, now int) {
	conn := r.Intn(len(l.pool.Conns))
	s := l.out[conn]
	if len(l.past) > 0 && r.Intn(3) == 0 {
		s = l.past[r.Intn(len(l.past))]
		conn = s.Conn
	}
	control, tag := s.Control, s.Want.Tag
	switch r.Intn(6) {
	case 0:
		conn = r.Intn(7) - 1
	case 1:
		tag = []string{"a", "b", "c"}[r.Intn(3)]
	case 2:
		control = fmt.Sprintf("U%d-%d", l.pool.Epoch, r.Intn(l.pool.Next+2))
	}
	p, sent, w, hit := impl.Answer(l.pool, conn, control, tag, now)
	is, busy := l.out[conn]
	if fits := busy && is.Control == control && is.Want.Tag == tag; fits != hit {
		l.t.Fatalf("reply %q %q on %d: %v, but %+v is out", control, tag, conn, hit, is)
	}
	if !hit {
		// Promise 9.
		if !samePool(p, l.pool) || len(sent) != 0 || w != (impl.Want{}) {
			l.t.Fatalf("a stale reply changed %s to %s", tellPool(l.pool), tellPool(p))
		}
		l.counts["stale"]++
		return
	}
	l.ends(conn, w, "answered")
	l.sends(sent)
	l.agrees(p)
}

func (l *ledger) expire(now int) {
	due := []int{}
	for i, conn := range l.pool.Conns {
		if conn.Busy && conn.Due <= now {
			due = append(due, i)
		}
	}
	p, sent, lost := impl.Expire(l.pool, now)
	if len(lost) != len(due) {
		l.t.Fatalf("lost %+v of %s at %d", lost, tellPool(l.pool), now)
	}
	for i, conn := range due {
		l.ends(conn, lost[i], "lost")
	}
	l.sends(sent)
	l.agrees(p)
}

func (l *ledger) forget(r *rand.Rand, now int) {
	client, tag := r.Intn(3), []string{"a", "b", "c"}[r.Intn(3)]
	theirs := func(w impl.Want) bool { return w.Client == client && w.Tag == tag }
	p, sent, freed := impl.Forget(l.pool, client, tag, now)
	for i := range l.pool.Conns {
		if s, busy := l.out[i]; busy && theirs(s.Want) != slices.Contains(freed, i) {
			l.t.Fatalf("forgot %d %q: freed %v of %s", client, tag, freed, tellPool(l.pool))
		}
	}
	for _, conn := range freed {
		l.ends(conn, l.out[conn].Want, "forgotten")
	}
	l.waiting = slices.DeleteFunc(slices.Clone(l.waiting), theirs)
	l.sends(sent)
	l.agrees(p)
}

// Promises 8 and 9, with drawn runs of calls on one pool.
func TestRunsOnOnePool(t *testing.T) {
	r := rand.New(rand.NewSource(62))
	counts := map[string]int{}
	for run := range 400 {
		l := newLedger(t, run, 1+run%4)
		now, asks := r.Intn(1000), 2+r.Intn(10)
		for range 200 {
			switch n := r.Intn(asks + 9); {
			case n < asks:
				l.ask(r, now)
			case n < asks+6:
				l.reply(r, now)
			case n < asks+8:
				now += r.Intn(20)
				l.expire(now)
			default:
				l.forget(r, now)
			}
		}
		// In the end each that was sent has ended once.
		for len(l.out) > 0 {
			now += 30
			l.expire(now)
		}
		for query, n := range l.ended {
			if n != 1 {
				t.Fatalf("want %s ended %d times", query, n)
			}
		}
		if len(l.ended) != l.counts["sent"] || len(l.waiting) != 0 {
			t.Fatalf("%d of %d ended, %d wait", len(l.ended), l.counts["sent"], len(l.waiting))
		}
		for what, n := range l.counts {
			counts[what] += n
		}
	}
	for _, what := range []string{"sent", "answered", "lost", "forgotten", "stale", "full"} {
		if counts[what] < 1000 {
			t.Errorf("only %d %s", counts[what], what)
		}
	}
}

// Promise 9: what was answered, came too late or was forgotten, is stale ever after.
func TestRepliesToWhatHasEnded(t *testing.T) {
	ask := func(p impl.Pool, i int) impl.Pool {
		p, _, _ = impl.Ask(p, wantOf(1, "b", i), 10*i)
		return p
	}
	begin := ask(ask(ask(impl.NewPool(4, 2), 0), 1), 2)
	answered, _, _, hit := impl.Answer(begin, 0, "U4-0", "b", 29)
	late, _, lost := impl.Expire(begin, 30)
	forgotten, _, freed := impl.Forget(begin, 1, "b", 29)
	if !hit || len(lost) != 1 || len(freed) != 2 {
		t.Fatalf("%v %v %v", hit, lost, freed)
	}
	for _, p := range []impl.Pool{answered, late, forgotten, ask(forgotten, 3)} {
		for _, now := range []int{0, 30, 31} {
			checkCall(t, p, replyOn(0, "U4-0", "b", now), poolAnswer{pool: p})
			checkCall(t, p, replyOn(1, "U4-0", "b", now), poolAnswer{pool: p})
		}
	}
	checkCall(t, forgotten, replyOn(1, "U4-1", "b", 30), poolAnswer{pool: forgotten})
	// A reply whose time is over is taken as long as Expire was not called.
	checkCallRule(t, begin, replyOn(0, "U4-0", "b", 31))
	if _, _, _, hit := impl.Answer(begin, 0, "U4-0", "b", 31); !hit {
		t.Errorf("the reply was stale before Expire")
	}
}

// roomyPool has entries behind the end of each of its lists.
func roomyPool(p impl.Pool) impl.Pool {
	p.Conns = roomy(p.Conns, busyOf("kept", wantOf(0, "kept", 0), 1))
	p.Queue = roomy(p.Queue, wantOf(0, "kept", 0))
	return p
}

func TestPoolsAreLeftAlone(t *testing.T) {
	r := rand.New(rand.NewSource(63))
	bad := badPools()
	for range 20000 {
		p := poolOfAnyKind(r, bad)
		c := randomCall(r, p)
		p = roomyPool(p)
		conns, queue := slices.Clone(p.Conns[:cap(p.Conns)]), slices.Clone(p.Queue[:cap(p.Queue)])
		got := c.do(p)
		for k := range got.pool.Conns[:cap(got.pool.Conns)] {
			got.pool.Conns[:cap(got.pool.Conns)][k] = impl.Conn{Control: "written"}
		}
		for k := range got.pool.Queue[:cap(got.pool.Queue)] {
			got.pool.Queue[:cap(got.pool.Queue)][k] = impl.Want{Tag: "written"}
		}
		if !slices.Equal(p.Conns[:cap(p.Conns)], conns) || !slices.Equal(p.Queue[:cap(p.Queue)], queue) {
			t.Fatalf("%s was written to by %+v", tellPool(p), c)
		}
	}
}

func answerSpans(a poolAnswer) []span {
	return []span{spanOf(a.pool.Conns), spanOf(a.pool.Queue), spanOf(a.sent), spanOf(a.lost), spanOf(a.freed)}
}

func TestPoolsAreNewMemory(t *testing.T) {
	r := rand.New(rand.NewSource(64))
	for range 10000 {
		p := roomyPool(randomPool(r))
		c := randomCall(r, p)
		spans := []span{spanOf(p.Conns), spanOf(p.Queue)}
		checkApart(t, slices.Concat(spans, answerSpans(c.do(p)), answerSpans(c.do(p))))
	}
	one, two := impl.NewPool(1, 4), impl.NewPool(1, 4)
	checkApart(t, []span{spanOf(one.Conns), spanOf(two.Conns)})
}
