package tests

import (
	"fmt"
	"math"
	"slices"
	"strings"
	"testing"

	"loop.example/s01639/impl"
)

func fromClient(client int, texts ...string) impl.Event {
	return impl.Event{Kind: impl.EvClient, Conn: client, Bytes: strings.Join(texts, "")}
}

func fromUp(conn int, texts ...string) impl.Event {
	return impl.Event{Kind: impl.EvUp, Conn: conn, Bytes: strings.Join(texts, "")}
}

func tick(n int) impl.Event {
	return impl.Event{Kind: impl.EvTick, N: n}
}

func life(n int) impl.Event {
	return impl.Event{Kind: impl.EvLife, N: n}
}

func crash(picks ...int) impl.Event {
	return impl.Event{Kind: impl.EvCrash, Picks: picks}
}

func framed(m impl.Message) string {
	return begin + impl.Encode(m) + end + ret
}

func findText(tag string) string {
	return "find " + tag
}

func openText(tag string, page int) string {
	return framed(requestMessage(impl.Request{Kind: impl.KindNew, Control: "n" + tag, Tag: tag, Query: findText(tag), Page: page}))
}

func turnText(tag, pointer string) string {
	return framed(requestMessage(impl.Request{Kind: impl.KindNext, Control: "x" + pointer[:min(len(pointer), 19)], Tag: tag, Pointer: pointer}))
}

func cancelText(tag string) string {
	return framed(requestMessage(impl.Request{Kind: impl.KindCancel, Control: "c" + tag, Tag: tag}))
}

func partText(control, tag, pointer string, rows ...string) string {
	return framed(replyMessage(impl.Reply{Ack: "AA", Control: control, Tag: tag, Rows: rows, Pointer: pointer}))
}

func errorText(ack, control, tag string, code int) string {
	return framed(replyMessage(impl.Reply{Ack: ack, Control: control, Code: code, Tag: tag}))
}

func opens(client int, tag string, page int) impl.Event {
	return fromClient(client, openText(tag, page))
}

func turns(client int, tag, pointer string) impl.Event {
	return fromClient(client, turnText(tag, pointer))
}

func cancels(client int, tag string) impl.Event {
	return fromClient(client, cancelText(tag))
}

func replies(conn int, control, tag, pointer string, rows ...string) impl.Event {
	return fromUp(conn, partText(control, tag, pointer, rows...))
}

// numbered is n rows that are all different.
func numbered(n int) []string {
	var rows []string
	for i := range n {
		rows = append(rows, fmt.Sprint("r", i))
	}
	return rows
}

// fetched is a session that has its n rows and has given out the first page. It
// must be the first of its broker.
func fetched(client int, tag string, page, n int) []impl.Event {
	return []impl.Event{opens(client, tag, page), replies(0, "U0-0", tag, "", numbered(n)...)}
}

// orDash shows a text that may be empty.
func orDash(s string) string {
	if s == "" {
		return "-"
	}
	return s
}

// tellOut is a line for what went out: the query of a request is told only if
// it is not that of openText.
func tellOut(o impl.Out) string {
	line := fmt.Sprintf("side %d %d:", o.Side, o.Conn)
	switch o.Side {
	case impl.ToClient:
		line = fmt.Sprintf("client %d:", o.Conn)
	case impl.ToUp:
		line = fmt.Sprintf("up %d:", o.Conn)
	}
	m, code := impl.Parse(o.Body)
	if code != 0 {
		return line + " no message " + brief(o.Body)
	}
	if r, wrong := impl.ReadRequest(m); wrong == 0 {
		line += " " + []string{"", "new", "next", "cancel"}[r.Kind] + " " + r.Control + " " + r.Tag
		if r.Kind != impl.KindCancel && r.Query != findText(r.Tag) {
			line += fmt.Sprintf(" %q", r.Query)
		}
		if r.Kind == impl.KindNew && r.Page != 50 {
			line += fmt.Sprintf(" page %d", r.Page)
		}
		return line + tellPointer(r.Pointer)
	}
	r, ok := ruleReply(m)
	if !ok {
		return line + " neither request nor reply " + brief(o.Body)
	}
	line += " " + r.Ack + " " + orDash(r.Control) + " " + orDash(r.Tag)
	if r.Code != 0 {
		line += fmt.Sprint(" ", r.Code)
	}
	return strings.Join(append([]string{line}, r.Rows...), " ") + tellPointer(r.Pointer)
}

func tellPointer(pointer string) string {
	if pointer == "" {
		return ""
	}
	return " >" + pointer
}

func tellOuts(outs []impl.Out) []string {
	var lines []string
	for _, o := range outs {
		lines = append(lines, tellOut(o))
	}
	return lines
}

func tellOutcome(o impl.Outcome) string {
	return fmt.Sprintf("outs:\n\t%s\n%s\n%s\n%s now %d dead %v", strings.Join(tellOuts(o.Outs), "\n\t"), tellTable(o.Table), brief(tellPool(o.Pool)), tellDisk(o.Disk), o.Now, o.Dead)
}

func tellEvents(events []impl.Event) string {
	var parts []string
	for _, e := range events {
		parts = append(parts, fmt.Sprintf("{%d %d %.300q %d %v}", e.Kind, e.Conn, e.Bytes, e.N, e.Picks[:min(len(e.Picks), 30)]))
	}
	return strings.Join(parts, "\n\t")
}

// sameState says whether all but what went out is the same.
func sameState(a, b impl.Outcome) bool {
	return sameTable(a.Table, b.Table) && samePool(a.Pool, b.Pool) && a.Disk == b.Disk && a.Now == b.Now && a.Dead == b.Dead
}

func sameOutcome(a, b impl.Outcome) bool {
	return slices.Equal(a.Outs, b.Outs) && sameState(a, b)
}

func validEvent(e impl.Event, conns int) bool {
	bare := e.Conn == 0 && e.Bytes == ""
	switch e.Kind {
	case 1:
		return e.Conn >= 0 && e.Conn <= 3 && len(e.Bytes) <= 4100 && e.N == 0 && len(e.Picks) == 0
	case 2:
		return e.Conn >= 0 && e.Conn < conns && len(e.Bytes) <= 4100 && e.N == 0 && len(e.Picks) == 0
	case 3:
		return bare && e.N >= 1 && e.N <= 1000 && len(e.Picks) == 0
	case 4:
		return bare && e.N == 0 && len(e.Picks) <= 200000
	case 5:
		return bare && e.N >= -1 && e.N <= 1000 && len(e.Picks) == 0
	}
	return false
}

type ruleNote struct {
	control string
	touched int
}

// ruleBroker is the broker by a second reading of the document: table, pool
// and disk are values that the rules of the other chapters change, and what
// comes to a disk step says whether the broker lives on.
type ruleBroker struct {
	out     impl.Outcome
	streams map[string]impl.Framer
	left    int
	notes   map[string]ruleNote
}

func newRuleBroker(conns int) *ruleBroker {
	b := &ruleBroker{}
	b.anew(0, conns)
	return b
}

func ruleExec(conns int, events []impl.Event) impl.Outcome {
	if conns < 1 || conns > 4 || len(events) > 400 {
		return impl.Outcome{}
	}
	b := newRuleBroker(conns)
	for _, e := range events {
		if !validEvent(e, conns) {
			return impl.Outcome{}
		}
		b.take(e)
	}
	return b.out
}

func (b *ruleBroker) anew(epoch, conns int) {
	b.out.Pool = poolOf(epoch, 0, make([]impl.Conn, conns))
	b.streams, b.notes = map[string]impl.Framer{}, map[string]ruleNote{}
	b.left, b.out.Dead = -1, false
	for _, s := range b.out.Table.Sessions {
		if s.State == 2 {
			b.notes[noteKey(s.Client, s.Tag)] = ruleNote{touched: b.out.Now}
		}
	}
}

func noteKey(client int, tag string) string {
	return fmt.Sprint(client, " ", tag)
}

func (b *ruleBroker) take(e impl.Event) {
	switch {
	case e.Kind == 4:
		b.out.Table = ruleRecover(ruleCrash(b.out.Disk, e.Picks))
		log := ruleSnapshot(b.out.Table)
		b.out.Disk = impl.Disk{Stable: log, Now: log}
		b.anew(b.out.Pool.Epoch+1, len(b.out.Pool.Conns))
	case b.out.Dead:
	case e.Kind == 5:
		b.left = e.N
	case e.Kind == 3:
		b.out.Dead = !b.tick(e.N)
	default:
		stream := fmt.Sprint(e.Kind, " ", e.Conn)
		next, frames := impl.Feed(b.streams[stream], e.Bytes)
		b.streams[stream] = next
		for _, f := range frames {
			if e.Kind == 1 && !b.clientFrame(e.Conn, f) || e.Kind == 2 && !b.upFrame(e.Conn, f) {
				b.out.Dead = true
				return
			}
		}
	}
}

func (b *ruleBroker) step() bool {
	if b.left == 0 {
		return false
	}
	b.left = max(b.left-1, -1)
	return true
}

func (b *ruleBroker) log(c impl.Change) bool {
	if !b.step() {
		return false
	}
	b.out.Disk.Now += changesLog(c)
	next, code := ruleApply(b.out.Table, c)
	if code != 0 {
		panic(fmt.Sprintf("code %d for %s of %s", code, tellChange(c), tellTable(b.out.Table)))
	}
	b.out.Table = next
	return true
}

func (b *ruleBroker) safe() bool {
	if !b.step() {
		return false
	}
	b.out.Disk.Stable = b.out.Disk.Now
	return true
}

func (b *ruleBroker) send(side, conn int, m impl.Message) {
	b.out.Outs = append(b.out.Outs, impl.Out{Side: side, Conn: conn, Body: impl.Encode(m)})
}

func (b *ruleBroker) sendError(client int, ack string, code int, control, tag string) {
	b.send(1, client, replyMessage(impl.Reply{Ack: ack, Code: code, Control: control, Tag: tag}))
}

func (b *ruleBroker) sendPage(s impl.Session, from, to int, control string) {
	r := impl.Reply{Ack: "AA", Control: control, Tag: s.Tag, Rows: s.Rows[from:to]}
	if to < len(s.Rows) {
		r.Pointer = fmt.Sprint(to)
	}
	b.send(1, s.Client, replyMessage(r))
}

func (b *ruleBroker) goOut(sent []impl.Sent) {
	for _, one := range sent {
		r := impl.Request{Kind: 1, Control: one.Control, Tag: one.Want.Tag, Query: one.Want.Query, Page: 50}
		if one.Want.Pointer != "" {
			r = impl.Request{Kind: 2, Control: one.Control, Tag: one.Want.Tag, Query: one.Want.Query, Pointer: one.Want.Pointer}
		}
		b.send(2, one.Conn, requestMessage(r))
	}
}

// call leaves what the pool sent to the caller, as that goes out later in Forget.
func (b *ruleBroker) call(c poolCall) poolAnswer {
	c.now = b.out.Now
	a := c.rule(b.out.Pool)
	b.out.Pool = a.pool
	return a
}

// session has state 0 if there is none.
func (b *ruleBroker) session(client int, tag string) impl.Session {
	for _, s := range b.out.Table.Sessions {
		if s.Client == client && s.Tag == tag {
			return s
		}
	}
	return impl.Session{}
}

func (b *ruleBroker) clientFrame(client int, f impl.Frame) bool {
	m, wrong := ruleParse(f.Body)
	if f.Bad != 0 || wrong != 0 {
		b.sendError(client, "AR", 100, "", "")
		return true
	}
	r, code := impl.ReadRequest(m)
	if code == 200 || code == 203 {
		b.sendError(client, "AR", code, r.Control, "")
		return true
	}
	if code != 0 {
		b.sendError(client, "AE", code, r.Control, "")
		return true
	}
	switch r.Kind {
	case 1:
		return b.open(client, r)
	case 2:
		return b.next(client, r)
	}
	s := b.session(client, r.Tag)
	if s.State != 1 && s.State != 2 {
		b.sendError(client, "AE", 204, r.Control, r.Tag)
		return true
	}
	if !b.end(s) {
		return false
	}
	b.send(1, client, replyMessage(impl.Reply{Ack: "AA", Control: r.Control, Tag: r.Tag}))
	return true
}

func (b *ruleBroker) open(client int, r impl.Request) bool {
	c := impl.Change{Kind: 1, Client: client, Tag: r.Tag, Query: r.Query, Page: r.Page}
	_, code := ruleApply(b.out.Table, c)
	if code != 0 {
		b.sendError(client, "AE", map[int]int{1: 205, 2: 207}[code], r.Control, r.Tag)
		return true
	}
	if !b.log(c) || !b.safe() {
		return false
	}
	b.notes[noteKey(client, r.Tag)] = ruleNote{r.Control, b.out.Now}
	b.goOut(b.call(askFor(impl.Want{Client: client, Tag: r.Tag, Query: r.Query}, 0)).sent)
	return true
}

func (b *ruleBroker) next(client int, r impl.Request) bool {
	s := b.session(client, r.Tag)
	if s.State != 2 {
		code := map[int]int{0: 204, 1: 207, 3: 207, 4: 204}[s.State]
		b.sendError(client, "AE", code, r.Control, r.Tag)
		return true
	}
	b.notes[noteKey(client, r.Tag)] = ruleNote{touched: b.out.Now}
	c, n := s.Cursor, len(s.Rows)
	if c < n && r.Pointer == fmt.Sprint(c) {
		to := min(c+s.Page, n)
		if !b.log(cursorOf(client, r.Tag, to)) || !b.safe() {
			return false
		}
		b.sendPage(s, c, to, r.Control)
		return true
	}
	before := 0
	for before+s.Page < c {
		before += s.Page
	}
	if before > 0 && r.Pointer == fmt.Sprint(before) {
		b.sendPage(s, before, c, r.Control)
		return true
	}
	b.sendError(client, "AE", 204, r.Control, r.Tag)
	return true
}

// lose is what the note's request is told when its session is gone.
func (b *ruleBroker) lose(client int, tag string) {
	n := b.notes[noteKey(client, tag)]
	delete(b.notes, noteKey(client, tag))
	if n.control != "" {
		b.sendError(client, "AE", 207, n.control, tag)
	}
}

func (b *ruleBroker) end(s impl.Session) bool {
	if !b.log(bareOf(6, s.Client, s.Tag)) || !b.safe() {
		return false
	}
	b.lose(s.Client, s.Tag)
	a := b.call(forgetOf(s.Client, s.Tag, 0))
	for _, conn := range a.freed {
		control := fmt.Sprintf("U%d-%d", b.out.Pool.Epoch, b.out.Pool.Next)
		b.out.Pool.Next++
		b.send(2, conn, requestMessage(impl.Request{Kind: 3, Control: control, Tag: s.Tag}))
	}
	b.goOut(a.sent)
	return true
}

func (b *ruleBroker) fail(w impl.Want) bool {
	if !b.log(bareOf(5, w.Client, w.Tag)) || !b.safe() {
		return false
	}
	b.lose(w.Client, w.Tag)
	return true
}

func (b *ruleBroker) upFrame(conn int, f impl.Frame) bool {
	m, wrong := ruleParse(f.Body)
	r, ok := ruleReply(m)
	if f.Bad != 0 || wrong != 0 || !ok {
		return true
	}
	a := b.call(replyOn(conn, r.Control, r.Tag, 0))
	if !a.hit {
		return true
	}
	b.goOut(a.sent)
	s := b.session(a.want.Client, a.want.Tag)
	if r.Ack != "AA" || len(s.Rows)+len(r.Rows) > 200 {
		return b.fail(a.want)
	}
	if len(r.Rows) > 0 && !b.log(rowsOf(s.Client, s.Tag, r.Rows...)) {
		return false
	}
	if r.Pointer != "" {
		w := a.want
		w.Pointer = r.Pointer
		b.goOut(b.call(askFor(w, 0)).sent)
		return true
	}
	return b.finish(s.Client, s.Tag)
}

func (b *ruleBroker) finish(client int, tag string) bool {
	s := b.session(client, tag)
	to := min(s.Page, len(s.Rows))
	if !b.log(bareOf(3, client, tag)) || to != 0 && !b.log(cursorOf(client, tag, to)) || !b.safe() {
		return false
	}
	b.sendPage(s, 0, to, b.notes[noteKey(client, tag)].control)
	b.notes[noteKey(client, tag)] = ruleNote{touched: b.out.Now}
	return true
}

func (b *ruleBroker) tick(n int) bool {
	b.out.Now += n
	a := b.call(expireAt(0))
	b.goOut(a.sent)
	for _, w := range a.lost {
		if !b.fail(w) {
			return false
		}
	}
	for _, s := range b.out.Table.Sessions {
		if (s.State == 1 || s.State == 2) && b.out.Now-b.notes[noteKey(s.Client, s.Tag)].touched >= 200 && !b.end(s) {
			return false
		}
	}
	return true
}

// checkExec holds Exec against the second reading.
func checkExec(t *testing.T, conns int, events []impl.Event) impl.Outcome {
	t.Helper()
	got, want := impl.Exec(conns, events), ruleExec(conns, events)
	if !sameOutcome(got, want) {
		t.Fatalf("Exec(%d,\n\t%s)\n%s\nwant\n%s", conns, tellEvents(events), tellOutcome(got), tellOutcome(want))
	}
	return got
}

// checkOuts asks for the lines of what went out too.
func checkOuts(t *testing.T, conns int, events []impl.Event, want ...string) impl.Outcome {
	t.Helper()
	o := checkExec(t, conns, events)
	checkLines(t, events, tellOuts(o.Outs), want)
	return o
}

// checkLast asks for the lines of what went out at the last event alone.
func checkLast(t *testing.T, conns int, events []impl.Event, want ...string) impl.Outcome {
	t.Helper()
	before := checkExec(t, conns, events[:len(events)-1])
	o := checkExec(t, conns, events)
	if len(o.Outs) < len(before.Outs) || !slices.Equal(o.Outs[:len(before.Outs)], before.Outs) {
		t.Fatalf("Exec(%d,\n\t%s): what was sent does not stay sent", conns, tellEvents(events))
	}
	checkLines(t, events, tellOuts(o.Outs[len(before.Outs):]), want)
	return o
}

func checkLines(t *testing.T, events []impl.Event, got, want []string) {
	t.Helper()
	if !slices.Equal(got, want) {
		t.Fatalf("Exec(\n\t%s)\ngot\n\t%s\nwant\n\t%s", tellEvents(events), strings.Join(got, "\n\t"), strings.Join(want, "\n\t"))
	}
}

// checkStates asks for the sessions of a table, each as client, tag, state,
// number of rows and cursor.
func checkStates(t *testing.T, o impl.Outcome, want ...string) {
	t.Helper()
	var got []string
	for _, s := range o.Table.Sessions {
		got = append(got, fmt.Sprintf("%d %s %s %d/%d", s.Client, s.Tag, []string{"?", "drain", "done", "failed", "closed"}[s.State], s.Cursor, len(s.Rows)))
	}
	if !slices.Equal(got, want) {
		t.Fatalf("the sessions are %q, want %q", got, want)
	}
}

// run joins lists of events and single ones.
func run(parts ...any) []impl.Event {
	var events []impl.Event
	for _, part := range parts {
		switch part := part.(type) {
		case impl.Event:
			events = append(events, part)
		case []impl.Event:
			events = append(events, part...)
		}
	}
	return events
}

func isZeroOutcome(o impl.Outcome) bool {
	return len(o.Outs) == 0 && sameState(o, impl.Outcome{})
}

func TestExecWithoutEvents(t *testing.T) {
	for _, conns := range []int{math.MinInt, -1, 0, 1, 2, 3, 4, 5, math.MaxInt} {
		want := impl.Outcome{}
		if conns >= 1 && conns <= 4 {
			want.Pool = poolOf(0, 0, make([]impl.Conn, conns))
		}
		for _, events := range [][]impl.Event{nil, {}} {
			if got := impl.Exec(conns, events); !sameOutcome(got, want) {
				t.Errorf("Exec(%d) without events: %s", conns, tellOutcome(got))
			}
		}
		if got := impl.Exec(conns, []impl.Event{tick(1)}); isZeroOutcome(got) != (len(want.Pool.Conns) == 0) {
			t.Errorf("Exec(%d) of a tick: %s", conns, tellOutcome(got))
		}
	}
}

func TestExecTakesSoManyEvents(t *testing.T) {
	for _, n := range []int{0, 1, 399, 400, 401, 402, 1000} {
		want := n
		if n > 400 {
			want = 0
		}
		if got := impl.Exec(1, times(n, tick(1))); got.Now != want || isZeroOutcome(got) != (n > 400) {
			t.Errorf("%d events: %s", n, tellOutcome(got))
		}
	}
}

// eachEvent is every event with one field at a limit, and next to one.
func eachEvent() []impl.Event {
	numbers := []int{math.MinInt, -2, -1, 0, 1, 2, 3, 4, 5, 999, 1000, 1001, math.MaxInt}
	texts := []string{"", "x", strings.Repeat("x", 4100), strings.Repeat("x", 4101)}
	picks := [][]int{nil, {}, {0}, make([]int, 200000), make([]int, 200001)}
	var events []impl.Event
	for _, kind := range []int{math.MinInt, -1, 0, 1, 2, 3, 4, 5, 6, 7, math.MaxInt} {
		for _, n := range []int{0, 1} {
			plain := impl.Event{Kind: kind, N: n}
			for _, number := range numbers {
				one := plain
				one.Conn = number
				events = append(events, one)
				one = plain
				one.N = number
				events = append(events, one)
			}
			for _, text := range texts {
				one := plain
				one.Bytes = text
				events = append(events, one)
			}
			for _, list := range picks {
				one := plain
				one.Picks = list
				events = append(events, one)
			}
		}
	}
	return events
}

func TestExecOfEachEvent(t *testing.T) {
	kinds := map[int]int{}
	for _, e := range eachEvent() {
		for conns := 1; conns <= 4; conns++ {
			o := checkExec(t, conns, []impl.Event{e})
			if isZeroOutcome(o) == validEvent(e, conns) {
				t.Fatalf("Exec(%d, %s): %s", conns, tellEvents([]impl.Event{e}), tellOutcome(o))
			}
			if validEvent(e, conns) {
				kinds[e.Kind]++
			}
		}
	}
	for kind := 1; kind <= 5; kind++ {
		if kinds[kind] == 0 || len(kinds) != 5 {
			t.Errorf("the kinds with good events are %v", kinds)
		}
	}
}

// goodEvents are at the limits, for two connections; badEvents are one past them.
func goodEvents() []impl.Event {
	full := strings.Repeat("x", 4100)
	return []impl.Event{
		{Kind: impl.EvClient}, {Kind: impl.EvClient, Conn: 3}, {Kind: impl.EvClient, Bytes: full}, {Kind: impl.EvClient, Picks: []int{}},
		{Kind: impl.EvUp}, {Kind: impl.EvUp, Conn: 1}, {Kind: impl.EvUp, Bytes: full}, {Kind: impl.EvUp, Picks: []int{}},
		{Kind: impl.EvTick, N: 1}, {Kind: impl.EvTick, N: 1000}, {Kind: impl.EvTick, N: 5, Picks: []int{}},
		{Kind: impl.EvCrash}, {Kind: impl.EvCrash, Picks: []int{math.MinInt, math.MaxInt}}, {Kind: impl.EvCrash, Picks: times(200000, 32)},
		{Kind: impl.EvLife, N: -1}, {Kind: impl.EvLife}, {Kind: impl.EvLife, N: 1000}, {Kind: impl.EvLife, Picks: []int{}},
	}
}

func badEvents() []impl.Event {
	long := strings.Repeat("x", 4101)
	return []impl.Event{
		{}, {Kind: -1}, {Kind: 6}, {Kind: 6, N: 1}, {Kind: math.MaxInt, Bytes: "x"},
		{Kind: impl.EvClient, Conn: -1}, {Kind: impl.EvClient, Conn: 4}, {Kind: impl.EvClient, Bytes: long}, {Kind: impl.EvClient, N: 1}, {Kind: impl.EvClient, N: -1}, {Kind: impl.EvClient, Picks: []int{0}},
		{Kind: impl.EvUp, Conn: -1}, {Kind: impl.EvUp, Conn: 2}, {Kind: impl.EvUp, Bytes: long}, {Kind: impl.EvUp, N: 1}, {Kind: impl.EvUp, N: -1}, {Kind: impl.EvUp, Picks: []int{0}},
		{Kind: impl.EvTick}, {Kind: impl.EvTick, N: -1}, {Kind: impl.EvTick, N: 1001}, {Kind: impl.EvTick, N: 1, Conn: 1}, {Kind: impl.EvTick, N: 1, Bytes: "x"}, {Kind: impl.EvTick, N: 1, Picks: []int{0}},
		{Kind: impl.EvCrash, Picks: make([]int, 200001)}, {Kind: impl.EvCrash, Conn: 1}, {Kind: impl.EvCrash, Bytes: "x"}, {Kind: impl.EvCrash, N: 1}, {Kind: impl.EvCrash, N: -1},
		{Kind: impl.EvLife, N: -2}, {Kind: impl.EvLife, N: 1001}, {Kind: impl.EvLife, Conn: 1}, {Kind: impl.EvLife, Bytes: "x"}, {Kind: impl.EvLife, Picks: []int{0}},
	}
}

func TestExecAtItsLimits(t *testing.T) {
	for _, e := range goodEvents() {
		if o := impl.Exec(2, []impl.Event{e}); len(o.Pool.Conns) != 2 {
			t.Errorf("Exec of %s: %s", tellEvents([]impl.Event{e}), tellOutcome(o))
		}
	}
	checkExec(t, 2, goodEvents())
	// One event that is not good is enough, wherever it stands, and be the broker dead there.
	around := run(opens(0, "a", 2), life(0), opens(1, "b", 2), tick(1))
	for _, e := range badEvents() {
		for i := range len(around) + 1 {
			if o := impl.Exec(2, slices.Insert(slices.Clone(around), i, e)); !isZeroOutcome(o) {
				t.Fatalf("Exec with %s at %d: %s", tellEvents([]impl.Event{e}), i, tellOutcome(o))
			}
		}
	}
}

func TestBodiesOfWhatGoesOut(t *testing.T) {
	o := checkExec(t, 1, run(opens(2, "a", 2), replies(0, "U0-0", "a", "p|1", "r|", "s", "t"), replies(0, "U0-1", "a", "", "u"), turns(2, "a", "2"), turns(2, "a", "9"), opens(3, "b", 1), cancels(3, "b"), fromClient(1, begin+begin)))
	start := header + "|||||||"
	want := []impl.Out{
		{Side: 2, Conn: 0, Body: start + "QBP^Z01|U0-0||2.5.1\rQPD|Q|a|find a\rRCP||50\r"},
		{Side: 2, Conn: 0, Body: start + "QBP^Z01|U0-1||2.5.1\rQPD|Q|a|find a\rDSC|p\\F\\1\r"},
		{Side: 1, Conn: 2, Body: start + "RSP^Z01|||2.5.1\rMSA|AA|na\rQAK|a|OK\rRDT|r\\F\\\rRDT|s\rDSC|2\r"},
		{Side: 1, Conn: 2, Body: start + "RSP^Z01|||2.5.1\rMSA|AA|x2\rQAK|a|OK\rRDT|t\rRDT|u\r"},
		{Side: 1, Conn: 2, Body: start + "RSP^Z01|||2.5.1\rMSA|AE|x9\rERR|||204\rQAK|a|AE\r"},
		{Side: 2, Conn: 0, Body: start + "QBP^Z01|U0-2||2.5.1\rQPD|Q|b|find b\rRCP||50\r"},
		{Side: 1, Conn: 3, Body: start + "RSP^Z01|||2.5.1\rMSA|AE|nb\rERR|||207\rQAK|b|AE\r"},
		{Side: 2, Conn: 0, Body: start + "QCN^J01|U0-3||2.5.1\rQID|b\r"},
		{Side: 1, Conn: 3, Body: start + "RSP^Z01|||2.5.1\rMSA|AA|cb\rQAK|b|OK\r"},
		{Side: 1, Conn: 1, Body: start + "RSP^Z01|||2.5.1\rMSA|AR\rERR|||100\rQAK||AR\r"},
	}
	for i := range max(len(want), len(o.Outs)) {
		if i >= len(want) || i >= len(o.Outs) || o.Outs[i] != want[i] {
			t.Fatalf("out %d of %v", i, o.Outs)
		}
	}
}

// wrongFrames is what gives an AR, 100, each of them one frame, at any client.
func wrongFrames() []string {
	texts := []string{begin + "x" + begin, begin + end + end, begin + header + end + "x"}
	for _, body := range []string{"", "MSH", "\n", header + "\x00", header + "\rpid", header + "\rPIDx", header + `|\X\`, header + strings.Repeat("\rPID", 250), header + strings.Repeat("|x", 31)} {
		texts = append(texts, begin+body+end+ret)
	}
	return texts
}

func TestClientFramesThatAreNotRead(t *testing.T) {
	codes := map[int]int{}
	for _, text := range wrongFrames() {
		_, frames := impl.Feed(impl.Framer{}, text)
		_, code := impl.Parse(frames[0].Body)
		codes[100*frames[0].Bad+code]++
		for client := range 4 {
			before := fetched(1, "a", 2, 5)
			o := checkLast(t, 2, run(before, fromClient(client, text)), fmt.Sprintf("client %d: AR - - 100", client))
			if !sameState(o, impl.Exec(2, before)) {
				t.Errorf("%q changed something", brief(text))
			}
		}
	}
	for _, code := range []int{101, 1, 2, 3, 4, 5, 6} {
		if codes[code] == 0 {
			t.Errorf("of the reasons there are only %v", codes)
		}
	}
	// Too long a frame takes many events; what is behind it is outside of a frame.
	long := append([]impl.Event{fromClient(3, begin)}, times(9, fromClient(3, strings.Repeat("x", 4100)))...)
	checkOuts(t, 1, run(long, fromClient(3, strings.Repeat("x", 3100))))
	checkOuts(t, 1, run(long, fromClient(3, strings.Repeat("x", 3101))), "client 3: AR - - 100")
	checkOuts(t, 1, run(long, fromClient(3, strings.Repeat("x", 3101), "xx", end, ret, end, openText("a", 1))), "client 3: AR - - 100", "up 0: new U0-0 a")
	// No frame, no answer.
	for _, text := range []string{"", "noise", end + ret, ret, begin, begin + "x", begin + "x" + end} {
		checkOuts(t, 1, run(fromClient(0, text)))
	}
}

// wrongRequests has a body for each code of ReadRequest and each of its
// reasons, with what is answered behind the client.
func wrongRequests() [][2]string {
	head := func(kind, control, version string) string {
		return header + "|||||||" + kind + "|" + control + "||" + version
	}
	full, long := strings.Repeat("c", 20), strings.Repeat("c", 21)
	return [][2]string{
		{head("ADT", "k", "2.5.1"), "AR k - 200"},
		{head("RSP", "k", "2.5.1"), "AR k - 200"},
		{head("", "k", ""), "AR k - 200"},
		{head("ADT", "", "2.3"), "AR - - 200"},
		{head("ADT", long, "2.3"), "AR - - 200"},
		{head("ADT", full, "2.3"), "AR " + full + " - 200"},
		{header, "AR - - 200"},
		{head("QBP", "k", "2.5"), "AR k - 203"},
		{head("QCN", "k", "2.5"), "AR k - 203"},
		{head("QCN", full, ""), "AR " + full + " - 203"},
		{head("QBP", "", "2.5.1"), "AE - - 101"},
		{head("QBP", long, "2.5"), "AE - - 101"},
		{head("QCN", long, "2.5.1") + "\rQID|t", "AE - - 101"},
		{head("QBP", "k", "2.5.1"), "AE k - 101"},
		{head("QBP", "k", "2.5.1") + "\rQPD||" + longTag, "AE k - 101"},
		{head("QCN", "k", "2.5.1") + "\rQPD||t", "AE k - 101"},
		{head("QCN", "k", "2.5.1") + "\rQID|" + longTag, "AE k - 101"},
		{head("QBP", "k", "2.5.1") + "\rQPD||t|" + longText, "AE k - 102"},
		{head("QBP", "k", "2.5.1") + "\rQPD||t\rDSC|" + longText, "AE k - 102"},
		{head("QBP", "k", "2.5.1") + "\rQPD||t\rRCP||0", "AE k - 102"},
		{head("QBP", "k", "2.5.1") + "\rQPD||t\rRCP||51", "AE k - 102"},
		{head("QBP", full, "2.5.1") + "\rQPD||t\rRCP||x", "AE " + full + " - 102"},
	}
}

func TestMessagesThatAreNoRequests(t *testing.T) {
	before := fetched(1, "t", 2, 5)
	for _, wrong := range wrongRequests() {
		for client := range 4 {
			o := checkLast(t, 2, run(before, fromClient(client, begin+wrong[0]+end+ret)), fmt.Sprintf("client %d: %s", client, wrong[1]))
			if !sameState(o, impl.Exec(2, before)) {
				t.Errorf("%q changed something", wrong[0])
			}
		}
	}
}

func TestRequestsInOtherForms(t *testing.T) {
	// Other delimiters, segments that are not asked for, no query and no page.
	bodies := []string{"MSH*:;!?*******QBP*k**2.5.1\rPID*x\rQPD**t\r", header + "|||||||QBP|k||2.5.1\rQPD||t|find t\rRCP||50", header + "|||||||QBP^x|k||2.5.1^y\rQPD||t^z|\rRCP||1"}
	for i, page := range []int{10, 50, 1} {
		o := checkExec(t, 1, run(fromClient(0, begin+bodies[i]+end+ret)))
		if len(o.Table.Sessions) != 1 || o.Table.Sessions[0].Page != page || len(o.Outs) != 1 || o.Outs[0].Side != impl.ToUp {
			t.Errorf("%q: %s", bodies[i], tellOutcome(o))
		}
	}
	checkOuts(t, 1, run(fromClient(0, begin+bodies[0]+end+ret)), `up 0: new U0-0 t ""`)
}

func TestNewQuery(t *testing.T) {
	o := checkOuts(t, 2, run(opens(3, "a", 7)), "up 0: new U0-0 a")
	checkStates(t, o, "3 a drain 0/0")
	s := o.Table.Sessions[0]
	if s.Query != "find a" || s.Page != 7 {
		t.Errorf("the session is %+v", s)
	}
	log := changesLog(impl.Change{Kind: impl.ChOpen, Client: 3, Tag: "a", Query: "find a", Page: 7})
	if o.Disk != (impl.Disk{Stable: log, Now: log}) {
		t.Errorf("the disk is %s", tellDisk(o.Disk))
	}
	want := poolOf(0, 1, []impl.Conn{busyOf("U0-0", impl.Want{Client: 3, Tag: "a", Query: "find a"}, 30), {}})
	if !samePool(o.Pool, want) {
		t.Errorf("the pool is %s", tellPool(o.Pool))
	}
	// Due counts from the time of the query.
	o = checkOuts(t, 2, run(tick(100), opens(0, "a", 7), tick(5), opens(1, "a", 7), opens(2, "a", 7), opens(0, "b", 7)), "up 0: new U0-0 a", "up 1: new U0-1 a")
	if o.Pool.Conns[0].Due != 130 || o.Pool.Conns[1].Due != 135 || len(o.Pool.Queue) != 2 {
		t.Errorf("the pool is %s", tellPool(o.Pool))
	}
	checkStates(t, o, "0 a drain 0/0", "1 a drain 0/0", "2 a drain 0/0", "0 b drain 0/0")
}

func TestNewQueryOnASessionThatIsThere(t *testing.T) {
	// Live: while it is fetched, waits, and when it is done, at any cursor.
	for _, before := range [][]impl.Event{
		{opens(0, "a", 2)},
		{opens(0, "z", 2), opens(0, "a", 2)},
		{opens(0, "a", 2), replies(0, "U0-0", "a", "p", "r")},
		fetched(0, "a", 2, 0), fetched(0, "a", 2, 2), fetched(0, "a", 2, 5),
		append(fetched(0, "a", 2, 3), turns(0, "a", "2")),
		append(fetched(0, "a", 2, 3), crash()),
	} {
		o := checkLast(t, 1, run(before, opens(0, "a", 3)), "client 0: AE na a 205")
		if !sameState(o, impl.Exec(1, before)) {
			t.Errorf("a second query changed something")
		}
	}
	// Another client's tag is another.
	checkLast(t, 1, run(fetched(0, "a", 2, 1), opens(1, "a", 3)), "up 0: new U0-1 a")
	// Ended: it is opened anew, at the end of the table.
	for _, before := range [][]impl.Event{
		{opens(0, "a", 2), cancels(0, "a")},
		append(fetched(0, "a", 2, 3), cancels(0, "a")),
		{opens(0, "a", 2), fromUp(0, errorText("AE", "U0-0", "a", 5))},
		{opens(0, "a", 2), tick(30)},
		{opens(0, "a", 2), crash()},
	} {
		o := impl.Exec(1, before)
		line := fmt.Sprintf("up 0: new U%d-%d a", o.Pool.Epoch, o.Pool.Next)
		checkStates(t, checkLast(t, 1, run(before, opens(0, "a", 3)), line), "0 a drain 0/0")
		o = checkExec(t, 1, run(before, opens(1, "b", 3), opens(0, "a", 3)))
		checkStates(t, o, "1 b drain 0/0", "0 a drain 0/0")
	}
}

// manyOpen is n sessions that are out or wait, of the clients in turn.
func manyOpen(n int) []impl.Event {
	var events []impl.Event
	for i := range n {
		events = append(events, opens(i%4, fmt.Sprint("t", i/4), 3))
	}
	return events
}

func TestNewQueryOnAFullTable(t *testing.T) {
	for conns := 1; conns <= 4; conns++ {
		o := checkExec(t, conns, manyOpen(16))
		if len(o.Table.Sessions) != 16 || len(o.Pool.Queue) != 16-conns || len(o.Outs) != conns {
			t.Fatalf("%s", tellOutcome(o))
		}
		full := checkLast(t, conns, run(manyOpen(16), opens(0, "new", 3)), "client 0: AE nnew new 207")
		if !sameState(full, o) {
			t.Errorf("a query that is not let in changed something")
		}
		checkLast(t, conns, run(manyOpen(16), opens(0, "t0", 3)), "client 0: AE nt0 t0 205")
		// One that has ended makes room: the first of them goes, or the client's own.
		o = checkExec(t, conns, run(manyOpen(16), cancels(2, "t3"), cancels(1, "t1"), opens(0, "new", 3)))
		if len(o.Table.Sessions) != 16 || o.Table.Sessions[15].Tag != "new" || slices.ContainsFunc(o.Table.Sessions, func(s impl.Session) bool { return s.Client == 1 && s.Tag == "t1" }) {
			t.Errorf("%s", tellTable(o.Table))
		}
		o = checkExec(t, conns, run(manyOpen(16), cancels(2, "t3"), cancels(1, "t1"), opens(2, "t3", 3)))
		if len(o.Table.Sessions) != 16 || o.Table.Sessions[5].State != impl.StClosed || o.Table.Sessions[15].Tag != "t3" {
			t.Errorf("%s", tellTable(o.Table))
		}
		// The session that went is not known any more, not even as one that has failed.
		checkLast(t, conns, run(manyOpen(15), opens(3, "end", 3), replies(0, "U0-0", "t0", "", "r"), fromUp(0, errorText("AR", fmt.Sprint("U0-", conns), tagAt(conns), 1)), opens(0, "new", 3), turns(conns%4, tagAt(conns), "1")),
			fmt.Sprintf("client %d: AE x1 %s 204", conns%4, tagAt(conns)))
	}
	// Fifteen and room for one.
	checkLast(t, 1, run(manyOpen(15), opens(3, "last", 3)))
}

// tagAt is the tag of session number n of manyOpen.
func tagAt(n int) string {
	return fmt.Sprint("t", n/4)
}

func TestNextPage(t *testing.T) {
	before := fetched(2, "a", 2, 5)
	checkOuts(t, 1, before, "up 0: new U0-0 a", "client 2: AA na a r0 r1 >2")
	second, third := turns(2, "a", "2"), turns(2, "a", "4")
	o := checkLast(t, 1, run(before, second), "client 2: AA x2 a r2 r3 >4")
	checkStates(t, o, "2 a done 4/5")
	o = checkLast(t, 1, run(before, second, third), "client 2: AA x4 a r4")
	checkStates(t, o, "2 a done 5/5")
	// The page before once more, as often as it is asked for.
	again := run(before, second, second)
	checkLast(t, 1, again, "client 2: AA x2 a r2 r3 >4")
	o = checkLast(t, 1, append(again, second), "client 2: AA x2 a r2 r3 >4")
	if !sameState(o, impl.Exec(1, again)) {
		t.Errorf("a page that is sent again changed something")
	}
	last := run(before, second, third)
	o = checkLast(t, 1, run(last, third), "client 2: AA x4 a r4")
	if !sameState(o, impl.Exec(1, last)) {
		t.Errorf("a page that is sent again changed something")
	}
	// All other pointers are not known, and the first page has none.
	for _, pointer := range []string{"0", "1", "3", "4", "5", "6", "-2", "02", "+2", " 2", "2 ", "2.0", "x", "200", "18446744073709551618", strings.Repeat("2", 200)} {
		checkLast(t, 1, run(before, turns(2, "a", pointer)), "client 2: AE x"+pointer[:min(19, len(pointer))]+" a 204")
	}
	for _, pointer := range []string{"0", "1", "3", "5", "-2", "04"} {
		checkLast(t, 1, run(before, second, turns(2, "a", pointer)), "client 2: AE x"+pointer+" a 204")
	}
	for _, pointer := range []string{"0", "1", "2", "3", "5", "6"} {
		o := checkLast(t, 1, run(last, turns(2, "a", pointer)), "client 2: AE x"+pointer+" a 204")
		if !sameState(o, impl.Exec(1, last)) {
			t.Errorf("a pointer that is not known changed something")
		}
	}
}

func TestNextPageOfEachSize(t *testing.T) {
	for _, page := range []int{1, 2, 3, 4, 5, 6, 7, 49, 50} {
		for _, n := range []int{0, 1, 2, 3, 4, 5, 6, 7, 8, 9, 10, 11, 12, 49, 50, 51, 99, 100, 101, 200} {
			checkAllPages(t, page, n)
		}
	}
}

// checkAllPages turns all pages of n rows, and asks at each cursor for every
// pointer near by.
func checkAllPages(t *testing.T, page, n int) {
	t.Helper()
	events, rows := fetched(0, "a", page, n), numbered(n)
	for from, to := 0, min(page, n); ; from, to = to, min(to+page, n) {
		for pointer := max(0, from-2); pointer <= to+2; pointer++ {
			o := impl.Exec(1, append(slices.Clone(events), turns(0, "a", fmt.Sprint(pointer))))
			got, want := tellOut(o.Outs[len(o.Outs)-1]), fmt.Sprintf("client 0: AE x%d a 204", pointer)
			if pointer == to && to < n {
				want = pageLine(rows, to, min(to+page, n))
			} else if pointer == from && from > 0 {
				want = pageLine(rows, from, to)
			}
			if got != want {
				t.Fatalf("%d rows, %d a page, pointer %d at %d: %s, want %s", n, page, pointer, to, got, want)
			}
		}
		if to == n {
			break
		}
		// A page of one row takes many events; a few of them are enough.
		if len(events) > 12 {
			break
		}
		events = append(events, turns(0, "a", fmt.Sprint(to)))
	}
	checkExec(t, 1, events)
}

func pageLine(rows []string, from, to int) string {
	line := fmt.Sprintf("client 0: AA x%d a %s", from, strings.Join(rows[from:to], " "))
	if to < len(rows) {
		line += fmt.Sprint(" >", to)
	}
	return line
}

func TestNextPageWithoutPages(t *testing.T) {
	for _, c := range []struct {
		before []impl.Event
		code   int
	}{
		{nil, 204},
		{run(opens(1, "a", 2)), 204},
		{run(opens(0, "b", 2)), 204},
		{run(opens(0, "a", 2)), 207},
		{run(opens(0, "z", 2), opens(0, "a", 2)), 207},
		{run(opens(0, "a", 2), replies(0, "U0-0", "a", "p", "r", "s", "t")), 207},
		{run(opens(0, "a", 2), tick(30)), 207},
		{run(opens(0, "a", 2), fromUp(0, errorText("AE", "U0-0", "a", 1))), 207},
		{run(opens(0, "a", 2), crash()), 207},
		{run(opens(0, "a", 2), cancels(0, "a")), 204},
		{run(fetched(0, "a", 2, 5), cancels(0, "a")), 204},
		{run(fetched(0, "a", 2, 5), tick(200)), 204},
		{run(fetched(0, "a", 2, 0)), 204},
	} {
		for _, pointer := range []string{"0", "1", "2", "x"} {
			o := checkLast(t, 1, run(c.before, turns(0, "a", pointer)), fmt.Sprintf("client 0: AE x%s a %d", pointer, c.code))
			if !sameState(o, impl.Exec(1, c.before)) {
				t.Errorf("a pointer that is not known changed something")
			}
		}
	}
}

// A cursor of 0 with rows is left where the broker died between the end of the
// rows and the cursor.
func TestNextPageAtTheBeginning(t *testing.T) {
	before := run(opens(0, "a", 2), life(2), replies(0, "U0-0", "a", "", "r0", "r1", "r2"), crash(times(20, 32)...))
	checkStates(t, checkExec(t, 1, before), "0 a done 0/3")
	checkLast(t, 1, run(before, turns(0, "a", "0")), "client 0: AA x0 a r0 r1 >2")
	checkLast(t, 1, run(before, turns(0, "a", "0"), turns(0, "a", "0")), "client 0: AE x0 a 204")
	checkLast(t, 1, run(before, turns(0, "a", "0"), turns(0, "a", "2")), "client 0: AA x2 a r2")
	for _, pointer := range []string{"-1", "1", "2", "3"} {
		checkLast(t, 1, run(before, turns(0, "a", pointer)), "client 0: AE x"+pointer+" a 204")
	}
	one := run(opens(0, "a", 1), life(2), replies(0, "U0-0", "a", "", "r0", "r1", "r2"), crash(times(20, 32)...))
	for _, pointer := range []string{"-1", "-2", "1"} {
		checkLast(t, 1, run(one, turns(0, "a", pointer)), "client 0: AE x"+pointer+" a 204")
	}
}

func TestCancel(t *testing.T) {
	for _, before := range [][]impl.Event{
		nil,
		run(opens(1, "a", 2)),
		run(opens(0, "b", 2)),
		run(opens(0, "a", 2), tick(30)),
		run(opens(0, "a", 2), crash()),
		run(opens(0, "a", 2), cancels(0, "a")),
		run(fetched(0, "a", 2, 5), cancels(0, "a")),
		run(fetched(0, "a", 2, 5), tick(200)),
	} {
		o := checkLast(t, 1, run(before, cancels(0, "a")), "client 0: AE ca a 204")
		if !sameState(o, impl.Exec(1, before)) {
			t.Errorf("a cancellation of nothing changed something")
		}
	}
	for _, before := range [][]impl.Event{fetched(0, "a", 2, 0), fetched(0, "a", 2, 2), fetched(0, "a", 2, 5), run(fetched(0, "a", 2, 5), turns(0, "a", "2")), run(fetched(0, "a", 2, 5), crash())} {
		o := checkLast(t, 1, run(before, cancels(0, "a")), "client 0: AA ca a")
		checkStates(t, o, "0 a closed 0/0")
		if o.Disk.Stable != o.Disk.Now || !strings.HasSuffix(o.Disk.Now, changesLog(bareOf(impl.ChClose, 0, "a"))) {
			t.Errorf("the disk is %s", tellDisk(o.Disk))
		}
	}
}

func TestCancelWhileSomethingIsOut(t *testing.T) {
	// On its connection, with nothing that waits.
	o := checkLast(t, 2, run(opens(0, "a", 2), cancels(0, "a")), "client 0: AE na a 207", "up 0: cancel U0-1 a", "client 0: AA ca a")
	checkStates(t, o, "0 a closed 0/0")
	if !samePool(o.Pool, poolOf(0, 2, make([]impl.Conn, 2))) {
		t.Errorf("the pool is %s", tellPool(o.Pool))
	}
	checkLast(t, 2, run(opens(1, "z", 2), opens(0, "a", 2), cancels(0, "a")), "client 0: AE na a 207", "up 1: cancel U0-2 a", "client 0: AA ca a")
	// Behind the first part, the request is another.
	checkLast(t, 1, run(opens(0, "a", 2), replies(0, "U0-0", "a", "p", "r"), cancels(0, "a")), "client 0: AE na a 207", "up 0: cancel U0-2 a", "client 0: AA ca a")
	// On a connection that is then taken by what waits: the cancellation goes out first and is numbered last.
	waiting := run(opens(0, "a", 2), opens(1, "a", 2), opens(0, "b", 2))
	checkLast(t, 1, run(waiting, cancels(0, "a")), "client 0: AE na a 207", "up 0: cancel U0-2 a", "up 0: new U0-1 a", "client 0: AA ca a")
	// In the queue, nothing is out.
	checkLast(t, 1, run(waiting, cancels(1, "a")), "client 1: AE na a 207", "client 1: AA ca a")
	o = checkLast(t, 1, run(waiting, cancels(1, "a"), cancels(0, "b")), "client 0: AE nb b 207", "client 0: AA cb b")
	if len(o.Pool.Queue) != 0 || !o.Pool.Conns[0].Busy || o.Pool.Next != 1 {
		t.Errorf("the pool is %s", tellPool(o.Pool))
	}
	// Another client's session with this tag is left alone.
	o = checkLast(t, 2, run(opens(0, "a", 2), opens(1, "a", 2), cancels(1, "a")), "client 1: AE na a 207", "up 1: cancel U0-2 a", "client 1: AA ca a")
	checkStates(t, o, "0 a drain 0/0", "1 a closed 0/0")
	// What comes for it then is stale.
	checkLast(t, 1, run(waiting, cancels(0, "a"), replies(0, "U0-0", "a", "", "late")))
	checkLast(t, 1, run(waiting, cancels(0, "a"), replies(0, "U0-2", "a", "", "late")))
	checkLast(t, 1, run(waiting, cancels(0, "a"), replies(0, "U0-1", "a", "", "r")), "up 0: new U0-3 b", "client 1: AA na a r")
}

func TestSeveralFramesInOneEvent(t *testing.T) {
	o := checkOuts(t, 1, run(fromClient(0, "noise", openText("a", 2), "between", openText("a", 2), begin+"x"+begin+begin, end, ret, turnText("a", "2"), cancelText("a"), cancelText("a"), openText("b", 1), begin, "rest")),
		"up 0: new U0-0 a", "client 0: AE na a 205", "client 0: AR - - 100", "client 0: AR - - 100", "client 0: AR - - 100", "client 0: AE x2 a 207",
		"client 0: AE na a 207", "up 0: cancel U0-1 a", "client 0: AA ca a", "client 0: AE ca a 204", "up 0: new U0-2 b")
	checkStates(t, o, "0 a closed 0/0", "0 b drain 0/0")
	checkOuts(t, 1, run(opens(0, "a", 1), fromUp(0, partText("U0-0", "a", "p", "r"), "noise", partText("U0-0", "a", "q", "s"), partText("U0-1", "a", "p"), begin+begin+begin, end, ret, partText("U0-2", "a", "", "t"), partText("U0-2", "a", "", "u"))),
		"up 0: new U0-0 a", "up 0: next U0-1 a >p", "up 0: next U0-2 a >p", "client 0: AA na a r >1")
}

// noReplies is what comes on a connection and is no reply to anything.
func noReplies() []string {
	start := header + "|||||||RSP^Z01|||2.5.1\r"
	texts := append(wrongFrames(), "", "noise", end+ret, begin+"x"+begin+begin+end+ret)
	for _, body := range []string{
		header,
		"MSH*:;!?*******QBP*k**2.5.1\r",
		impl.Encode(requestMessage(impl.Request{Kind: impl.KindCancel, Control: "U0-0", Tag: "a"})),
		start + "MSA|AA|U0-0\rQAK|a|AE\rRDT|r\r",
		start + "MSA|AA|U0-0\rRDT|r\r",
		start + "MSA|AA|U0-0\rQAK|a|OK\rDSC|p\rRDT|r\r",
		start + "MSA|AA|U0-0\rQAK|a|OK\rRDT|r|s\r",
		start + "MSA|AA|U0-0\rQAK|a|OK\rRDT|" + longText + "\r",
		start + "MSA|AA|U0-0\rQAK|a|OK\r" + strings.Repeat("RDT|r\r", 201),
		start + "MSA|AE|U0-0\rQAK|a|AE\r",
		start + "MSA|AE|U0-0\rERR|||0\rQAK|a|AE\r",
		start + "MSA|AC|U0-0\rQAK|a|OK\r",
	} {
		texts = append(texts, begin+body+end+ret)
	}
	return texts
}

func TestWhatIsNoReplyChangesNothing(t *testing.T) {
	before := run(opens(0, "a", 2), opens(1, "a", 2), opens(1, "b", 2))
	state := impl.Exec(2, before)
	for _, text := range noReplies() {
		for conn := range 2 {
			o := checkLast(t, 2, run(before, fromUp(conn, text)))
			if !sameState(o, state) {
				t.Errorf("%q changed something", brief(text))
			}
			// What comes behind it is read.
			checkLast(t, 2, run(before, fromUp(0, text, partText("U0-0", "a", "", "r"))), "up 0: new U0-2 b", "client 0: AA na a r")
		}
	}
	// A frame that is too long, on a connection.
	long := append([]impl.Event{fromUp(0, begin)}, times(10, fromUp(0, strings.Repeat("x", 4100)))...)
	checkLast(t, 2, run(before, long, replies(0, "U0-0", "a", "", "r")), "up 0: new U0-2 b", "client 0: AA na a r")
}

func TestRepliesThatAreStale(t *testing.T) {
	before := run(opens(0, "a", 2), opens(1, "b", 2), opens(1, "c", 2), replies(1, "U0-1", "b", "p", "r"))
	checkLast(t, 2, before, "up 1: new U0-2 c")
	state := impl.Exec(2, before)
	for conn := range 2 {
		for _, control := range []string{"", "U0-0", "U0-1", "U0-2", "U0-3", "U1-0", "U0-00", "na"} {
			for _, tag := range []string{"", "a", "b", "c", "d"} {
				fits := conn == 0 && control == "U0-0" && tag == "a" || conn == 1 && control == "U0-2" && tag == "c"
				for _, text := range []string{partText(control, tag, "", "late"), partText(control, tag, "p", "late"), errorText("AE", control, tag, 1), errorText("AR", control, tag, 999)} {
					events := run(before, fromUp(conn, text))
					o := checkExec(t, 2, events)
					if sameOutcome(o, state) == fits {
						t.Fatalf("Exec(\n\t%s)\n%s", tellEvents(events), tellOutcome(o))
					}
				}
			}
		}
	}
	// After its time, after a cancellation, after an answer, after a crash.
	late := replies(0, "U0-0", "a", "", "late")
	for _, then := range []impl.Event{tick(30), cancels(0, "a"), replies(0, "U0-0", "a", "p"), fromUp(0, errorText("AE", "U0-0", "a", 1)), crash()} {
		checkLast(t, 1, run(opens(0, "a", 2), then, late))
	}
	checkLast(t, 1, run(opens(0, "a", 2), tick(29), late), "client 0: AA na a late")
}

func TestRepliesThatFail(t *testing.T) {
	for _, text := range []string{errorText("AE", "U0-0", "a", 1), errorText("AR", "U0-0", "a", 999)} {
		o := checkLast(t, 1, run(opens(2, "a", 2), fromUp(0, text)), "client 2: AE na a 207")
		checkStates(t, o, "2 a failed 0/0")
		if o.Disk.Stable != o.Disk.Now || !strings.HasSuffix(o.Disk.Now, changesLog(bareOf(impl.ChFail, 2, "a"))) {
			t.Errorf("the disk is %s", tellDisk(o.Disk))
		}
		// What waits goes out first.
		o = checkLast(t, 1, run(opens(2, "a", 2), opens(2, "b", 2), fromUp(0, text)), "up 0: new U0-1 b", "client 2: AE na a 207")
		checkStates(t, o, "2 a failed 0/0", "2 b drain 0/0")
	}
	// The rows that were there are gone.
	o := checkLast(t, 1, run(opens(2, "a", 2), replies(0, "U0-0", "a", "p", "r"), fromUp(0, errorText("AE", "U0-1", "a", 1))), "client 2: AE na a 207")
	checkStates(t, o, "2 a failed 0/0")
	checkLast(t, 1, run(opens(2, "a", 2), fromUp(0, errorText("AE", "U0-0", "a", 1)), cancels(2, "a")), "client 2: AE ca a 204")
}

func TestHowManyRowsThereMayBe(t *testing.T) {
	for _, c := range []struct {
		first, second int
		good          bool
	}{{200, 0, true}, {199, 1, true}, {200, 1, false}, {1, 199, true}, {1, 200, false}, {100, 100, true}, {100, 101, false}, {0, 200, true}, {200, 200, false}} {
		for _, pointer := range []string{"", "q"} {
			events := run(opens(0, "a", 1), replies(0, "U0-0", "a", "p", numbered(c.first)...), replies(0, "U0-1", "a", pointer, times(c.second, "s")...))
			switch {
			case !c.good:
				checkStates(t, checkLast(t, 1, events, "client 0: AE na a 207"), "0 a failed 0/0")
			case pointer == "":
				first := append(numbered(c.first), "s")[0]
				checkStates(t, checkLast(t, 1, events, "client 0: AA na a "+first+" >1"), fmt.Sprintf("0 a done 1/%d", c.first+c.second))
			default:
				checkStates(t, checkLast(t, 1, events, "up 0: next U0-2 a >q"), fmt.Sprintf("0 a drain 0/%d", c.first+c.second))
			}
		}
	}
}

func TestRepliesOfParts(t *testing.T) {
	open := opens(3, "a", 4)
	opened := changesLog(impl.Change{Kind: impl.ChOpen, Client: 3, Tag: "a", Query: "find a", Page: 4})
	// Rows and a pointer: they are logged, but not yet safe.
	o := checkLast(t, 1, run(open, tick(7), replies(0, "U0-0", "a", "p", "r", "")), "up 0: next U0-1 a >p")
	checkStates(t, o, "3 a drain 0/2")
	if o.Disk != (impl.Disk{Stable: opened, Now: opened + changesLog(rowsOf(3, "a", "r", ""))}) {
		t.Errorf("the disk is %s", tellDisk(o.Disk))
	}
	if want := busyOf("U0-1", impl.Want{Client: 3, Tag: "a", Query: "find a", Pointer: "p"}, 37); o.Pool.Conns[0] != want {
		t.Errorf("the pool is %s", tellPool(o.Pool))
	}
	// A pointer alone: nothing is logged.
	o = checkLast(t, 1, run(open, replies(0, "U0-0", "a", "p")), "up 0: next U0-1 a >p")
	if o.Disk != (impl.Disk{Stable: opened, Now: opened}) {
		t.Errorf("the disk is %s", tellDisk(o.Disk))
	}
	// Rows alone, or nothing: the answer is there.
	o = checkLast(t, 1, run(open, replies(0, "U0-0", "a", "", "r")), "client 3: AA na a r")
	log := opened + changesLog(rowsOf(3, "a", "r"), bareOf(impl.ChDone, 3, "a"), cursorOf(3, "a", 1))
	if o.Disk != (impl.Disk{Stable: log, Now: log}) {
		t.Errorf("the disk is %s", tellDisk(o.Disk))
	}
	o = checkLast(t, 1, run(open, replies(0, "U0-0", "a", "")), "client 3: AA na a")
	log = opened + changesLog(bareOf(impl.ChDone, 3, "a"))
	if o.Disk != (impl.Disk{Stable: log, Now: log}) {
		t.Errorf("the disk is %s", tellDisk(o.Disk))
	}
	checkStates(t, o, "3 a done 0/0")
	// What waits goes out before the next part of a session is asked for, and that waits behind it.
	queue := run(open, opens(1, "b", 1), opens(1, "c", 1))
	o = checkLast(t, 1, run(queue, replies(0, "U0-0", "a", "p", "r")), "up 0: new U0-1 b")
	if len(o.Pool.Queue) != 2 || o.Pool.Queue[0].Tag != "c" || o.Pool.Queue[1] != (impl.Want{Client: 3, Tag: "a", Query: "find a", Pointer: "p"}) {
		t.Errorf("the pool is %s", tellPool(o.Pool))
	}
	checkLast(t, 1, run(queue, replies(0, "U0-0", "a", "", "r")), "up 0: new U0-1 b", "client 3: AA na a r")
	checkLast(t, 2, run(queue, replies(1, "U0-1", "b", "p", "r")), "up 1: new U0-2 c")
	// The next part goes to the lowest connection that is free, which need not be that of the first.
	checkLast(t, 2, run(queue, replies(0, "U0-0", "a", ""), replies(0, "U0-2", "c", ""), replies(1, "U0-1", "b", "p", "r")), "up 0: next U0-3 b >p")
}

func TestFirstPage(t *testing.T) {
	for _, c := range []struct {
		page, n, cursor int
		pointer         string
	}{{5, 0, 0, ""}, {1, 0, 0, ""}, {5, 1, 1, ""}, {5, 4, 4, ""}, {5, 5, 5, ""}, {5, 6, 5, " >5"}, {5, 10, 5, " >5"}, {5, 200, 5, " >5"}, {1, 1, 1, ""}, {1, 2, 1, " >1"}, {50, 49, 49, ""}, {50, 50, 50, ""}, {50, 51, 50, " >50"}} {
		rows := numbered(c.n)
		line := strings.Join(append([]string{"client 0: AA na a"}, rows[:c.cursor]...), " ") + c.pointer
		state := fmt.Sprintf("0 a done %d/%d", c.cursor, c.n)
		open := opens(0, "a", c.page)
		checkStates(t, checkLast(t, 1, run(open, replies(0, "U0-0", "a", "", rows...)), line), state)
		// In two parts, the second without rows, and the first.
		checkStates(t, checkLast(t, 1, run(open, replies(0, "U0-0", "a", "p", rows...), replies(0, "U0-1", "a", "")), line), state)
		checkStates(t, checkLast(t, 1, run(open, replies(0, "U0-0", "a", "p"), replies(0, "U0-1", "a", "", rows...)), line), state)
		half := c.n / 2
		checkStates(t, checkLast(t, 1, run(open, replies(0, "U0-0", "a", "p", rows[:half]...), replies(0, "U0-1", "a", "", rows[half:]...)), line), state)
	}
}

func TestGreatAnswers(t *testing.T) {
	// Rows and pages of the greatest size, all bytes escaped, so that a reply takes many events.
	row := strings.Repeat("|", 200)
	events := run(opens(0, "a", 50))
	for part := range 4 {
		pointer := ""
		if part < 3 {
			pointer = strings.Repeat("^", 200)
		}
		text := partText(fmt.Sprint("U0-", part), "a", pointer, times(50, row)...)
		for text != "" {
			size := min(len(text), 4100)
			events = append(events, fromUp(0, text[:size]))
			text = text[size:]
		}
	}
	events = run(events, turns(0, "a", "50"), turns(0, "a", "100"), turns(0, "a", "100"), turns(0, "a", "150"))
	o := checkExec(t, 1, events)
	checkStates(t, o, "0 a done 200/200")
	if len(o.Outs) != 4+5 {
		t.Errorf("%d outs", len(o.Outs))
	}
	for _, out := range o.Outs {
		if out.Side == impl.ToClient && strings.Count(out.Body, "RDT|"+strings.Repeat(`\F\`, 200)+"\r") != 50 {
			t.Errorf("a page is %s", brief(out.Body))
		}
	}
}

func TestTickWithWhatIsLost(t *testing.T) {
	two := run(opens(0, "a", 1), tick(10), opens(1, "b", 1))
	checkLast(t, 2, run(two, tick(19)))
	o := checkLast(t, 2, run(two, tick(20)), "client 0: AE na a 207")
	checkStates(t, o, "0 a failed 0/0", "1 b drain 0/0")
	if o.Now != 30 || o.Disk.Stable != o.Disk.Now {
		t.Errorf("%s", tellOutcome(o))
	}
	checkLast(t, 2, run(two, tick(29)), "client 0: AE na a 207")
	o = checkLast(t, 2, run(two, tick(30)), "client 0: AE na a 207", "client 1: AE nb b 207")
	checkStates(t, o, "0 a failed 0/0", "1 b failed 0/0")
	// What waits goes out before the errors, and its time begins then.
	o = checkLast(t, 2, run(two, opens(2, "c", 1), opens(2, "d", 1), opens(2, "e", 1), tick(30)), "up 0: new U0-2 c", "up 1: new U0-3 d", "client 0: AE na a 207", "client 1: AE nb b 207")
	if o.Pool.Conns[0].Due != 70 || o.Pool.Conns[1].Due != 70 || len(o.Pool.Queue) != 1 {
		t.Errorf("the pool is %s", tellPool(o.Pool))
	}
	// In the order of the connections, be the table's another.
	swapped := run(opens(0, "a", 1), opens(1, "b", 1), opens(2, "c", 1), replies(0, "U0-0", "a", "p", "r"), replies(1, "U0-1", "b", ""), tick(30))
	o = checkLast(t, 2, swapped, "client 2: AE nc c 207", "client 0: AE na a 207")
	checkStates(t, o, "0 a failed 0/0", "1 b done 0/0", "2 c failed 0/0")
	// Nothing is lost twice, and every part has its own time.
	checkLast(t, 1, run(opens(0, "a", 1), tick(30), tick(30)))
	checkLast(t, 1, run(opens(0, "a", 1), tick(20), replies(0, "U0-0", "a", "p"), tick(29)))
	checkLast(t, 1, run(opens(0, "a", 1), tick(20), replies(0, "U0-0", "a", "p"), tick(30)), "client 0: AE na a 207")
}

func TestTickEndsIdleSessions(t *testing.T) {
	for _, n := range []int{1, 198, 199} {
		checkLast(t, 1, run(fetched(0, "a", 2, 5), tick(n)))
	}
	for _, n := range []int{200, 201, 1000} {
		o := checkLast(t, 1, run(fetched(0, "a", 2, 5), tick(n)))
		checkStates(t, o, "0 a closed 0/0")
		if o.Disk.Stable != o.Disk.Now {
			t.Errorf("the disk is %s", tellDisk(o.Disk))
		}
	}
	// Each of these touches the session, be it with a page, once more or with an error.
	for _, touch := range []impl.Event{turns(0, "a", "2"), turns(0, "a", "4"), turns(0, "a", "x"), turns(0, "a", "9")} {
		before := run(fetched(0, "a", 2, 5), turns(0, "a", "2"), tick(150), touch)
		checkStates(t, checkLast(t, 1, run(before, tick(199))), "0 a done "+fmt.Sprint(impl.Exec(1, before).Table.Sessions[0].Cursor)+"/5")
		checkStates(t, checkLast(t, 1, run(before, tick(200))), "0 a closed 0/0")
	}
	// These do not: a query with its tag, other sessions, what comes for it too late.
	for _, other := range []impl.Event{opens(0, "a", 2), turns(1, "a", "2"), turns(0, "b", "2"), cancels(0, "b"), replies(0, "U0-0", "a", "", "late"), fromClient(0, begin+begin), life(9)} {
		checkStates(t, impl.Exec(1, run(fetched(0, "a", 2, 5), tick(150), other, tick(49))), "0 a done 2/5")
		checkStates(t, checkLast(t, 1, run(fetched(0, "a", 2, 5), tick(150), other, tick(50))), "0 a closed 0/0")
	}
	// The first page touches.
	checkStates(t, checkLast(t, 1, run(opens(0, "a", 2), tick(20), replies(0, "U0-0", "a", "", "r"), tick(199))), "0 a done 1/1")
	checkStates(t, checkLast(t, 1, run(opens(0, "a", 2), tick(20), replies(0, "U0-0", "a", "", "r"), tick(200))), "0 a closed 0/0")
	// A session that has ended is not ended again.
	checkLast(t, 1, run(fetched(0, "a", 2, 5), cancels(0, "a"), tick(200)))
	checkStates(t, checkLast(t, 1, run(opens(0, "a", 2), tick(30), tick(500))), "0 a failed 0/0")
}

// slow is a session of which a part without rows comes every 20, so that it is
// being fetched yet at 180.
func slow(conn, client int, tag string, first int) []impl.Event {
	events := run(opens(client, tag, 2))
	for i := range 9 {
		events = run(events, tick(20), replies(conn, fmt.Sprint("U0-", first+i), tag, "p"))
	}
	return events
}

func TestTickEndsSessionsThatAreBeingFetched(t *testing.T) {
	events := slow(0, 0, "a", 0)
	checkLast(t, 1, run(events, tick(19)))
	// Parts do not touch a session: it ends with what is out.
	o := checkLast(t, 1, run(events, tick(20)), "client 0: AE na a 207", "up 0: cancel U0-10 a")
	checkStates(t, o, "0 a closed 0/0")
	if o.Pool.Conns[0].Busy || o.Pool.Next != 11 || o.Disk.Stable != o.Disk.Now {
		t.Errorf("%s", tellOutcome(o))
	}
	// One that waits so long ends in the queue; what waits behind goes out when the first ends.
	one := run(opens(3, "a", 2), opens(2, "b", 2))
	for i := range 9 {
		one = run(one, tick(20))
		if i < 8 {
			one = run(one, replies(0, fmt.Sprint("U0-", i), []string{"a", "b"}[i%2], "p"))
		}
	}
	one = run(one, replies(0, "U0-8", "a", "p"), opens(1, "c", 2))
	checkLast(t, 1, run(one, tick(20)),
		"client 3: AE na a 207",
		"client 2: AE nb b 207", "up 0: cancel U0-11 b", "up 0: new U0-10 c")
	// Lost first, so it fails and is not ended; the others end in the order of the table.
	checkStates(t, checkLast(t, 1, run(events, tick(30)), "client 0: AE na a 207"), "0 a failed 0/0")
	many := run(manyOpen(3), replies(0, "U0-0", "t0", ""), replies(0, "U0-1", "t0", ""), replies(0, "U0-2", "t0", ""), tick(100), turns(1, "t0", "1"), opens(3, "late", 1), tick(29), cancels(3, "late"), tick(71))
	checkStates(t, checkLast(t, 1, many), "0 t0 closed 0/0", "1 t0 done 0/0", "2 t0 closed 0/0", "3 late closed 0/0")
}

// outAt is a line that goes out only if the broker has so many disk steps.
type outAt struct {
	steps int
	line  string
}

// dying is an event that takes so many disk steps behind others.
type dying struct {
	name   string
	conns  int
	before []impl.Event
	event  impl.Event
	steps  int
	outs   []outAt
}

func dyings() []dying {
	queue := run(opens(0, "a", 2), opens(1, "b", 2))
	parts := run(opens(0, "a", 2), replies(0, "U0-0", "a", "p", "r0", "r1"))
	three := run(fetched(0, "a", 2, 5), tick(5), opens(1, "b", 2), replies(0, "U0-1", "b", "", "s"), opens(2, "c", 2))
	return []dying{
		{"new", 1, nil, opens(0, "a", 2), 2, []outAt{{2, "up 0: new U0-0 a"}}},
		{"new that waits", 1, run(opens(1, "b", 2)), opens(0, "a", 2), 2, nil},
		{"new on a live session", 1, fetched(0, "a", 2, 5), opens(0, "a", 2), 0, []outAt{{0, "client 0: AE na a 205"}}},
		{"new on a full table", 1, manyOpen(16), opens(0, "a", 2), 0, []outAt{{0, "client 0: AE na a 207"}}},
		{"new on an ended session", 1, run(fetched(0, "a", 2, 5), cancels(0, "a")), opens(0, "a", 2), 2, []outAt{{2, "up 0: new U0-1 a"}}},
		{"next", 1, fetched(0, "a", 2, 5), turns(0, "a", "2"), 2, []outAt{{2, "client 0: AA x2 a r2 r3 >4"}}},
		{"next again", 1, run(fetched(0, "a", 2, 5), turns(0, "a", "2")), turns(0, "a", "2"), 0, []outAt{{0, "client 0: AA x2 a r2 r3 >4"}}},
		{"next unknown", 1, fetched(0, "a", 2, 5), turns(0, "a", "3"), 0, []outAt{{0, "client 0: AE x3 a 204"}}},
		{"cancel", 1, fetched(0, "a", 2, 5), cancels(0, "a"), 2, []outAt{{2, "client 0: AA ca a"}}},
		{"cancel while out", 1, queue, cancels(0, "a"), 2, []outAt{{2, "client 0: AE na a 207"}, {2, "up 0: cancel U0-2 a"}, {2, "up 0: new U0-1 b"}, {2, "client 0: AA ca a"}}},
		{"cancel while waiting", 1, queue, cancels(1, "b"), 2, []outAt{{2, "client 1: AE nb b 207"}, {2, "client 1: AA cb b"}}},
		{"cancel of nothing", 1, nil, cancels(1, "b"), 0, []outAt{{0, "client 1: AE cb b 204"}}},
		{"noise", 1, fetched(0, "a", 2, 5), fromClient(0, begin+begin), 0, []outAt{{0, "client 0: AR - - 100"}}},
		{"many frames", 1, fetched(0, "a", 2, 5), fromClient(0, openText("b", 1), turnText("a", "2"), turnText("a", "2"), cancelText("a"), openText("a", 1)), 8,
			[]outAt{{2, "up 0: new U0-1 b"}, {4, "client 0: AA x2 a r2 r3 >4"}, {4, "client 0: AA x2 a r2 r3 >4"}, {6, "client 0: AA ca a"}}},
		{"a part", 1, parts[:1], replies(0, "U0-0", "a", "p", "r0"), 1, []outAt{{1, "up 0: next U0-1 a >p"}}},
		{"a part while others wait", 1, queue, replies(0, "U0-0", "a", "p", "r0"), 1, []outAt{{0, "up 0: new U0-1 b"}}},
		{"a part without rows", 1, parts[:1], replies(0, "U0-0", "a", "p"), 0, []outAt{{0, "up 0: next U0-1 a >p"}}},
		{"the last part", 1, parts, replies(0, "U0-1", "a", "", "r2"), 4, []outAt{{4, "client 0: AA na a r0 r1 >2"}}},
		{"the last part while others wait", 1, queue, replies(0, "U0-0", "a", "", "r2"), 4, []outAt{{0, "up 0: new U0-1 b"}, {4, "client 0: AA na a r2"}}},
		{"the last part without rows", 1, parts, replies(0, "U0-1", "a", ""), 3, []outAt{{3, "client 0: AA na a r0 r1"}}},
		{"no rows at all", 1, parts[:1], replies(0, "U0-0", "a", ""), 2, []outAt{{2, "client 0: AA na a"}}},
		{"an error", 1, queue, fromUp(0, errorText("AE", "U0-0", "a", 1)), 2, []outAt{{0, "up 0: new U0-1 b"}, {2, "client 0: AE na a 207"}}},
		{"too many rows", 1, parts, replies(0, "U0-1", "a", "", numbered(199)...), 2, []outAt{{2, "client 0: AE na a 207"}}},
		{"a stale reply", 1, parts, replies(0, "U0-0", "a", "", "late"), 0, nil},
		{"many replies", 1, queue, fromUp(0, partText("U0-0", "a", "", "r"), partText("U0-1", "b", "p", "s"), partText("U0-2", "b", "", "t")), 9,
			[]outAt{{0, "up 0: new U0-1 b"}, {4, "client 0: AA na a r"}, {5, "up 0: next U0-2 b >p"}, {9, "client 1: AA nb b s t"}}},
		{"a tick", 1, three, tick(29), 0, nil},
		{"one is lost", 1, three, tick(30), 2, []outAt{{2, "client 2: AE nc c 207"}}},
		{"two are lost", 2, run(queue, opens(2, "c", 1)), tick(30), 4, []outAt{{0, "up 0: new U0-2 c"}, {2, "client 0: AE na a 207"}, {4, "client 1: AE nb b 207"}}},
		{"idle ones", 1, three, tick(200), 6, []outAt{{2, "client 2: AE nc c 207"}}},
		{"one is idle", 1, run(three, tick(20), replies(0, "U0-2", "c", "")), tick(179), 2, nil},
		{"idle with something out", 1, slow(0, 0, "a", 0), tick(20), 2, []outAt{{2, "client 0: AE na a 207"}, {2, "up 0: cancel U0-10 a"}}},
	}
}

// checkDying gives the event n disk steps and asks what went out and whether
// the broker is dead.
func checkDying(t *testing.T, d dying, n int) impl.Outcome {
	t.Helper()
	var want []string
	for _, out := range d.outs {
		if n < 0 || n >= out.steps {
			want = append(want, out.line)
		}
	}
	o := checkLast(t, d.conns, run(d.before, life(n), d.event), want...)
	if o.Dead != (n >= 0 && n < d.steps) {
		t.Fatalf("%s, %d steps: dead %v", d.name, n, o.Dead)
	}
	return o
}

func TestEveryDiskStep(t *testing.T) {
	for _, d := range dyings() {
		for _, n := range []int{-1, 1000, d.steps + 1, d.steps} {
			if o := checkDying(t, d, n); !sameState(o, impl.Exec(d.conns, run(d.before, d.event))) {
				t.Errorf("%s, %d steps: the event was not done as a whole", d.name, n)
			}
		}
		for n := range d.steps {
			dead := checkDying(t, d, n)
			// Nothing is done until the crash, not even by EvLife.
			for _, e := range run(opens(3, "z", 1), turns(0, "a", "2"), cancels(0, "a"), replies(0, "U0-0", "a", "", "r"), tick(1), tick(1000), life(-1), life(9), fromClient(0, begin+begin), d.event) {
				if o := checkLast(t, d.conns, run(d.before, life(n), d.event, e)); !sameState(o, dead) {
					t.Errorf("%s, %d steps: a dead broker does something", d.name, n)
				}
			}
		}
		checkStepsCount(t, d)
	}
}

// checkStepsCount asks that the steps are counted over several events, and
// that noise takes none.
func checkStepsCount(t *testing.T, d dying) {
	t.Helper()
	if len(impl.Exec(d.conns, d.before).Table.Sessions) == impl.MaxSessions {
		return
	}
	noise := fromClient(3, begin+begin+end+ret)
	for more := range 4 {
		o := impl.Exec(d.conns, run(d.before, life(d.steps+more), noise, d.event, opens(3, "z", 1)))
		if o.Dead != (more < 2) {
			t.Errorf("%s, %d steps more: dead %v", d.name, more, o.Dead)
		}
	}
}

func TestCrashesAtEveryDiskStep(t *testing.T) {
	for _, d := range dyings() {
		for n := range d.steps + 1 {
			for _, picks := range [][]int{nil, times(40, 32), {32}, {31}, {32, 31}, {32, 32}, {0, 32}, {32, 0, 32}, {5, 7}, times(40, 31), {math.MaxInt, math.MinInt, 32}} {
				events := run(d.before, life(n), d.event, crash(picks...))
				o := checkLast(t, d.conns, events)
				checkCrashed(t, impl.Exec(d.conns, events[:len(events)-1]), o)
				again := checkLast(t, d.conns, run(events, crash(picks...)))
				if !sameTable(again.Table, o.Table) || again.Disk != o.Disk {
					t.Errorf("%s, %d steps, picks %v: a second crash changed something", d.name, n, picks)
				}
				checkStepsAfter(t, d, events)
			}
		}
	}
}

// checkCrashed asks for what a crash always leaves.
func checkCrashed(t *testing.T, before, o impl.Outcome) {
	t.Helper()
	log := ruleSnapshot(o.Table)
	want := poolOf(before.Pool.Epoch+1, 0, make([]impl.Conn, len(before.Pool.Conns)))
	if o.Dead || o.Now != before.Now || o.Disk != (impl.Disk{Stable: log, Now: log}) || !samePool(o.Pool, want) {
		t.Fatalf("a crash left %s", tellOutcome(o))
	}
}

// checkStepsAfter asks for a broker that goes on behind the crash.
func checkStepsAfter(t *testing.T, d dying, events []impl.Event) {
	t.Helper()
	o := checkExec(t, d.conns, run(events, turns(0, "a", "2"), turns(0, "a", "4"), tick(199), cancels(1, "b"), opens(3, "z", 1), replies(0, "U1-0", "z", "", "r"), tick(1)))
	if len(o.Table.Sessions) > 0 && o.Table.Sessions[len(o.Table.Sessions)-1].State != impl.StDone && len(o.Table.Sessions) < 16 {
		t.Fatalf("%s: %s", d.name, tellOutcome(o))
	}
}

func TestLife(t *testing.T) {
	// The last word counts while the broker lives.
	o := checkOuts(t, 1, run(life(0), life(2), opens(0, "a", 1)), "up 0: new U0-0 a")
	if o.Dead {
		t.Errorf("dead with two steps")
	}
	o = checkOuts(t, 1, run(life(2), opens(0, "a", 1), tick(5), opens(0, "b", 1), tick(6), crash(), opens(0, "c", 1)), "up 0: new U0-0 a", "up 0: new U1-0 c")
	if o.Dead || o.Now != 5 {
		t.Errorf("%s", tellOutcome(o))
	}
	checkStates(t, o, "0 a failed 0/0", "0 c drain 0/0")
	// A crash gives back life for ever, to the living too.
	o = checkExec(t, 1, run(life(1), crash(), fetched(0, "a", 1, 5)[:1], replies(0, "U1-0", "a", "", "r"), cancels(0, "a")))
	if o.Dead {
		t.Errorf("dead behind a crash")
	}
	if o = checkExec(t, 1, run(life(1000), fetched(0, "a", 1, 5))); o.Dead {
		t.Errorf("dead with 1000 steps")
	}
	// For ever is more than any number of steps.
	busy := times(20, fromClient(0, strings.Repeat(openText("a", 1)+cancelText("a"), 20)))
	for _, before := range [][]impl.Event{nil, {life(-1)}, {life(3), opens(0, "b", 1), cancels(0, "b"), crash()}} {
		if o = impl.Exec(1, run(before, busy)); o.Dead || len(o.Outs) < 20*20*4 {
			t.Errorf("%d outs, dead %v", len(o.Outs), o.Dead)
		}
	}
	if o = impl.Exec(1, run(life(1000), busy)); !o.Dead || len(o.Outs) != 250*4 {
		t.Errorf("%d outs with 1000 steps, dead %v", len(o.Outs), o.Dead)
	}
	// A broker without steps is not dead before it needs one.
	if o = checkExec(t, 1, run(fetched(0, "a", 2, 5), life(0), tick(7), turns(0, "a", "4"), fromUp(0, "noise"))); o.Dead || o.Now != 7 {
		t.Errorf("%s", tellOutcome(o))
	}
}

func TestCrash(t *testing.T) {
	// Of nothing.
	o := checkOuts(t, 3, run(crash()))
	if !sameOutcome(o, impl.Outcome{Pool: poolOf(1, 0, make([]impl.Conn, 3))}) {
		t.Errorf("%s", tellOutcome(o))
	}
	// A session of each state.
	each := run(fetched(0, "done", 2, 5), turns(0, "done", "2"), opens(1, "drain", 2), replies(0, "U0-1", "drain", "p", "r"), opens(2, "closed", 2), cancels(2, "closed"), tick(3), fromClient(3, begin, "half"), fromUp(0, begin, "half"))
	o = checkLast(t, 1, run(each, crash()))
	checkStates(t, o, "0 done done 4/5", "1 drain failed 0/0", "2 closed closed 0/0")
	checkCrashed(t, impl.Exec(1, each), o)
	twice := checkLast(t, 1, run(each, crash(), crash(32)))
	if !sameTable(twice.Table, o.Table) || twice.Disk != o.Disk || twice.Pool.Epoch != 2 || twice.Now != 3 {
		t.Errorf("%s", tellOutcome(twice))
	}
	// The framers are zero: what follows is outside of a frame.
	checkLast(t, 1, run(each, fromClient(3, end+ret)), "client 3: AR - - 100")
	checkLast(t, 1, run(each, crash(), fromClient(3, end+ret)))
	open := openText("z", 1)
	checkLast(t, 1, run(each, fromClient(0, open[:9]), fromClient(0, open[9:])))
	checkLast(t, 1, run(each, fromClient(0, open[:9]), crash(), fromClient(0, open[9:])))
	part := partText("U0-2", "drain", "", "s")
	fetching := each[:5]
	checkLast(t, 1, run(fetching, fromUp(0, part[:9]), fromUp(0, part[9:])), "client 1: AA ndrain drain r s")
	checkLast(t, 1, run(fromUp(0, part[:9]), crash(), opens(1, "drain", 2), replies(0, "U1-0", "drain", "", "s")), "client 1: AA ndrain drain s")
	for size := range len(part) {
		early := partText("U1-0", "drain", "", "s")
		checkLast(t, 1, run(fromUp(0, early[:size+1]), crash(), opens(1, "drain", 2), fromUp(0, early[size+1:])))
	}
	// What was out is stale, and controls are of the new epoch.
	checkLast(t, 1, run(fetching, crash(), replies(0, "U0-2", "drain", "", "s")))
	checkLast(t, 1, run(fetching, crash(), opens(1, "drain", 2)), "up 0: new U1-0 drain")
	checkLast(t, 1, run(fetching, crash(), opens(1, "drain", 2), replies(0, "U0-2", "drain", "", "s")))
	checkLast(t, 1, run(fetching, crash(), opens(1, "drain", 2), cancels(1, "drain")), "client 1: AE ndrain drain 207", "up 0: cancel U1-1 drain", "client 1: AA cdrain drain")
}

func TestNotesBehindACrash(t *testing.T) {
	// Sessions are touched by the crash.
	before := run(fetched(0, "a", 2, 5), tick(150), crash())
	checkStates(t, checkLast(t, 1, run(before, tick(199))), "0 a done 2/5")
	checkStates(t, checkLast(t, 1, run(before, tick(200))), "0 a closed 0/0")
	checkStates(t, checkLast(t, 1, run(before, tick(150), turns(0, "a", "2"), tick(199))), "0 a done 4/5")
	// Nothing waits for a first page, so a cancellation tells no one.
	checkLast(t, 1, run(before, cancels(0, "a")), "client 0: AA ca a")
	// The first page was logged but never went out.
	died := run(opens(0, "a", 2), life(3), replies(0, "U0-0", "a", "", "r0", "r1", "r2"), crash(times(20, 32)...))
	checkStates(t, checkExec(t, 1, died), "0 a done 2/3")
	checkLast(t, 1, run(died, cancels(0, "a")), "client 0: AA ca a")
	checkLast(t, 1, run(died, tick(200)))
	checkLast(t, 1, run(died, turns(0, "a", "2")), "client 0: AA x2 a r2")
	// A session that failed by the crash has no note, and one that is opened anew has its own.
	failed := run(opens(0, "a", 2), crash())
	checkLast(t, 1, run(failed, tick(500)))
	checkLast(t, 1, run(failed, tick(500), opens(0, "a", 2), tick(29)))
}

func TestCrashKeepsWhatThePicksSay(t *testing.T) {
	// The rows are logged, but not safe: those of the first record take two sectors.
	before := run(opens(0, "a", 2), life(4), replies(0, "U0-0", "a", "p", strings.Repeat("r", 30)), replies(0, "U0-1", "a", "", "s"))
	o := checkExec(t, 1, before)
	open := len(o.Disk.Now) - len(o.Disk.Stable)
	if !o.Dead || open != 5*32 {
		t.Fatalf("%d bytes are not safe: %s", open, tellOutcome(o))
	}
	// Only with all sectors up to that of ChDone the session is done, and up to that of ChCursor is its cursor there.
	for n := range 7 {
		for _, pick := range []int{0, 1, 31, 32, 33} {
			state := "0 a failed 0/0"
			whole := n
			if pick >= 32 {
				whole++
			}
			if whole >= 4 {
				state = "0 a done 0/2"
			}
			if whole >= 5 {
				state = "0 a done 2/2"
			}
			checkStates(t, checkExec(t, 1, run(before, crash(append(times(n, 32), pick)...))), state)
		}
	}
}
