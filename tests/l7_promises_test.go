package tests

import (
	"fmt"
	"math/rand"
	"runtime"
	"slices"
	"strconv"
	"strings"
	"testing"
	"time"

	"loop.example/s01639/impl"
)

// script draws the events of a broker one by one. It keeps the second reading
// of the broker beside them, so that requests and replies mostly fit to what
// is there. Every row that it sends is another.
type script struct {
	r      *rand.Rand
	conns  int
	events []impl.Event
	broker *ruleBroker
	tags   []string
	rows   int
	deaths int
	begun  map[string]string
}

func newScript(r *rand.Rand, tags ...string) *script {
	conns := 1 + r.Intn(4)
	return &script{r: r, conns: conns, broker: newRuleBroker(conns), tags: tags, begun: map[string]string{}}
}

func (s *script) add(events ...impl.Event) {
	for _, e := range events {
		s.events = append(s.events, e)
		dead := s.broker.out.Dead
		s.broker.take(e)
		if s.broker.out.Dead && !dead {
			s.deaths++
		}
	}
}

func (s *script) tag() string {
	return s.tags[s.r.Intn(len(s.tags))]
}

func (s *script) newRows(n int) []string {
	var rows []string
	for range n {
		s.rows++
		rows = append(rows, fmt.Sprint("row ", s.rows))
	}
	return rows
}

// stream cuts off the end of some texts and sends it with the next of the same
// stream, so that frames are cut by other events too.
func (s *script) stream(e impl.Event) impl.Event {
	name := fmt.Sprint(e.Kind, " ", e.Conn)
	text := s.begun[name] + e.Bytes
	size := len(text)
	if s.r.Intn(6) == 0 {
		size = s.r.Intn(size + 1)
	}
	size = min(size, 4100)
	s.begun[name] = text[size:]
	e.Bytes = text[:size]
	return e
}

// turn asks for a page: mostly the next, or the one before.
func (s *script) turn() impl.Event {
	var done []impl.Session
	for _, one := range s.broker.out.Table.Sessions {
		if one.State == impl.StDone {
			done = append(done, one)
		}
	}
	if len(done) == 0 || s.r.Intn(8) == 0 {
		return turns(s.r.Intn(4), s.tag(), fmt.Sprint(s.r.Intn(5)))
	}
	one := done[s.r.Intn(len(done))]
	pointer := one.Cursor
	switch s.r.Intn(5) {
	case 0:
		pointer = s.r.Intn(len(one.Rows) + 2)
	case 1:
		pointer = max(0, one.Cursor-1) / one.Page * one.Page
	}
	return turns(one.Client, one.Tag, fmt.Sprint(pointer))
}

func (s *script) open() impl.Event {
	return opens(s.r.Intn(4), s.tag(), 1+s.r.Intn(4))
}

func (s *script) cancel() impl.Event {
	if live := s.broker.out.Table.Sessions; len(live) > 0 && s.r.Intn(3) > 0 {
		one := live[s.r.Intn(len(live))]
		return cancels(one.Client, one.Tag)
	}
	return cancels(s.r.Intn(4), s.tag())
}

// answer replies to something that is out, if there is such a thing.
func (s *script) answer() impl.Event {
	conn := s.r.Intn(s.conns)
	for range s.conns {
		if s.broker.out.Pool.Conns[conn].Busy {
			break
		}
		conn = (conn + 1) % s.conns
	}
	out := s.broker.out.Pool.Conns[conn]
	control, tag, pointer := out.Control, out.Want.Tag, ""
	if s.r.Intn(3) == 0 {
		pointer = fmt.Sprint("p", s.r.Intn(1000))
	}
	n := s.r.Intn(7)
	if s.r.Intn(20) == 0 {
		n = 150
	}
	if s.r.Intn(15) == 0 {
		return fromUp(conn, errorText("AE", control, tag, 1))
	}
	return replies(conn, control, tag, pointer, s.newRows(n)...)
}

// stale is a reply that fits to nothing, or, by chance, to something else.
func (s *script) stale() impl.Event {
	p := s.broker.out.Pool
	control := fmt.Sprintf("U%d-%d", max(0, p.Epoch-s.r.Intn(2)), s.r.Intn(p.Next+2))
	return replies(s.r.Intn(s.conns), control, s.tag(), []string{"", "p"}[s.r.Intn(2)], s.newRows(s.r.Intn(3))...)
}

func (s *script) noise() impl.Event {
	if s.r.Intn(2) == 0 {
		texts := noReplies()
		return fromUp(s.r.Intn(s.conns), texts[s.r.Intn(len(texts))])
	}
	if s.r.Intn(2) == 0 {
		texts := wrongFrames()
		return fromClient(s.r.Intn(4), texts[s.r.Intn(len(texts))])
	}
	texts := wrongRequests()
	return fromClient(s.r.Intn(4), begin+texts[s.r.Intn(len(texts))][0]+end+ret)
}

// draw is one event of those that are named: o opens, n turns a page, c
// cancels, a answers, s is stale, j is junk, t a tick, l life and k a crash. A
// broker is not left dead for long.
func (s *script) draw(kinds string) impl.Event {
	if s.broker.out.Dead && s.r.Intn(3) == 0 {
		return crash(randomPicks(s.r)...)
	}
	switch kinds[s.r.Intn(len(kinds))] {
	case 'o':
		return s.open()
	case 'n':
		return s.turn()
	case 'c':
		return s.cancel()
	case 'a':
		return s.answer()
	case 's':
		return s.stale()
	case 'j':
		return s.noise()
	case 't':
		return tick([]int{1, 1, 2, 5, 10, 20, 30, 60, 200}[s.r.Intn(9)])
	case 'l':
		return life(s.r.Intn(9) - 1)
	}
	return crash(randomPicks(s.r)...)
}

// drawStream is the same, but several frames of one stream may come together,
// and their ends may come later.
func (s *script) drawStream(kinds string) impl.Event {
	e := s.draw(kinds)
	if e.Kind != impl.EvClient && e.Kind != impl.EvUp {
		return e
	}
	for s.r.Intn(4) == 0 {
		if more := s.draw(kinds); more.Kind == e.Kind {
			e.Bytes += more.Bytes
		}
	}
	return s.stream(e)
}

const allKinds = "oooonnnnnnncaaaaaasjttlk"
const livingKinds = "oooonnnnnnncaaaaaasjttk"

func someTags() []string {
	return []string{"a", "b", "c"}
}

// manyTags fill the table.
func manyTags() []string {
	return []string{"a", "b", "c", "d", "e", "f", "g", "h"}
}

func TestDrawnEventsFollowTheRules(t *testing.T) {
	r := rand.New(rand.NewSource(71))
	deaths, full, pages := 0, 0, 0
	for i := range 600 {
		s := newScript(r, someTags()...)
		kinds := []string{allKinds, livingKinds, "oooonnaacs"}[i%3]
		if i%2 == 0 {
			s.tags = manyTags()
		}
		for range 1 + r.Intn(60) {
			s.add(s.drawStream(kinds))
		}
		o := checkExec(t, s.conns, s.events)
		if !sameOutcome(o, s.broker.out) {
			t.Fatalf("the second reading is not its own way of taking events")
		}
		deaths += s.deaths
		if len(o.Table.Sessions) == impl.MaxSessions {
			full++
		}
		for _, line := range tellOuts(o.Outs) {
			if strings.HasPrefix(line, "client") && strings.Contains(line, " AA x") {
				pages++
			}
		}
	}
	if deaths < 100 || full < 20 || pages < 500 {
		t.Errorf("only %d deaths, %d full tables and %d pages", deaths, full, pages)
	}
}

// lived is a run of events with what Exec answers behind each of them.
type lived struct {
	conns  int
	events []impl.Event
	after  []impl.Outcome
}

func live(s *script) lived {
	l := lived{conns: s.conns, events: s.events}
	for i := range s.events {
		l.after = append(l.after, impl.Exec(s.conns, s.events[:i+1]))
	}
	return l
}

// before is the outcome ahead of event i.
func (l lived) before(i int) impl.Outcome {
	if i == 0 {
		return impl.Exec(l.conns, nil)
	}
	return l.after[i-1]
}

// outs is what went out at event i.
func (l lived) outs(i int) []impl.Out {
	return l.after[i].Outs[len(l.before(i).Outs):]
}

func replyIn(body string) (impl.Reply, bool) {
	m, code := impl.Parse(body)
	if code != 0 {
		return impl.Reply{}, false
	}
	return impl.ReadReply(m)
}

func requestIn(body string) (impl.Request, bool) {
	m, code := impl.Parse(body)
	if code != 0 {
		return impl.Request{}, false
	}
	r, wrong := impl.ReadRequest(m)
	return r, wrong == 0
}

// repliesIn is the replies that a broker sees at event i, by framers of its own.
func (l lived) repliesIn(i int) []impl.Reply {
	if l.events[i].Kind != impl.EvUp || l.before(i).Dead {
		return nil
	}
	framer := impl.Framer{}
	for _, e := range l.events[:i] {
		if e.Kind == impl.EvCrash {
			framer = impl.Framer{}
		} else if e.Kind == impl.EvUp && e.Conn == l.events[i].Conn {
			framer, _ = impl.Feed(framer, e.Bytes)
		}
	}
	_, frames := impl.Feed(framer, l.events[i].Bytes)
	var list []impl.Reply
	for _, f := range frames {
		if r, ok := replyIn(f.Body); ok && f.Bad == 0 {
			list = append(list, r)
		}
	}
	return list
}

func TestRowsComeFromRepliesToWhatWasSent(t *testing.T) {
	r := rand.New(rand.NewSource(72))
	shown, sent := 0, 0
	for range 60 {
		s := newScript(r, someTags()...)
		for range 50 {
			s.add(s.drawStream("oooonnnnnnncaaaaaassssjttlk"))
		}
		l := live(s)
		// asked has every request that was sent, by connection, control and tag.
		// Replies in the event in which the request goes out count as behind it:
		// their rows are looked at when a page shows them.
		asked, answered := map[string]int{}, map[string]int{}
		for i := range l.events {
			for _, out := range l.outs(i) {
				if r, ok := requestIn(out.Body); ok && out.Side == impl.ToUp && r.Kind != impl.KindCancel {
					asked[fmt.Sprint(out.Conn, " ", r.Control, " ", r.Tag)]++
				}
			}
			for _, reply := range l.repliesIn(i) {
				key := fmt.Sprint(l.events[i].Conn, " ", reply.Control, " ", reply.Tag)
				for _, row := range reply.Rows {
					sent++
					answered[reply.Tag+" "+row] = asked[key]
				}
			}
			for _, out := range l.outs(i) {
				page, ok := replyIn(out.Body)
				if !ok || out.Side != impl.ToClient {
					continue
				}
				for _, row := range page.Rows {
					shown++
					if answered[page.Tag+" "+row] != 1 {
						t.Fatalf("%s shows a row that no reply brought to what was asked, in\n\t%s", tellOut(out), tellEvents(l.events))
					}
				}
			}
		}
	}
	if shown < 300 || sent < 2*shown {
		t.Errorf("only %d rows were shown, of %d that were sent", shown, sent)
	}
}

// pages follows the pages of the sessions, by client and tag.
type pages struct {
	t     *testing.T
	rows  map[string][]string
	given map[string]int
	last  map[string]string
	count int
	again int
}

// see takes one page, of a session that has all these rows.
func (p *pages) see(client int, page impl.Reply, s impl.Session) {
	p.t.Helper()
	key := noteKey(client, page.Tag)
	told := strings.Join(page.Rows, ",") + ">" + page.Pointer
	if len(page.Rows) > 0 && p.last[key] == told {
		p.again++
		return
	}
	p.count++
	from := p.given[key]
	to := from + len(page.Rows)
	pointer := ""
	if to < len(s.Rows) {
		pointer = strconv.Itoa(to)
	}
	if s.State != impl.StDone || to > len(s.Rows) || !slices.Equal(page.Rows, s.Rows[from:to]) || page.Pointer != pointer || len(page.Rows) != min(s.Page, len(s.Rows)-from) {
		p.t.Fatalf("page %q >%s behind %d rows of %+v", page.Rows, page.Pointer, from, s)
	}
	p.given[key], p.last[key] = to, told
}

func TestPagesAreABeginningOfTheRows(t *testing.T) {
	r := rand.New(rand.NewSource(73))
	seen, again := 0, 0
	for range 60 {
		s := newScript(r, someTags()...)
		for range 60 {
			// One frame an event, so that the table behind it is that of its page.
			s.add(s.draw(livingKinds))
		}
		l := live(s)
		p := &pages{t: t, given: map[string]int{}, last: map[string]string{}, rows: map[string][]string{}}
		for i := range l.events {
			for _, out := range l.outs(i) {
				page, ok := replyIn(out.Body)
				if !ok || out.Side != impl.ToClient || page.Ack != "AA" || strings.HasPrefix(page.Control, "c") {
					continue
				}
				p.see(out.Conn, page, sessionAt(l.after[i].Table, out.Conn, page.Tag))
			}
			p.follow(l.after[i].Table)
		}
		seen, again = seen+p.count, again+p.again
	}
	if seen < 300 || again < 30 {
		t.Errorf("only %d pages, %d of them again", seen, again)
	}
}

// follow asks that the rows of a session that is done stay as they are and its
// cursor is where its pages end; what is not done has given nothing yet.
func (p *pages) follow(table impl.Table) {
	p.t.Helper()
	there := map[string]int{}
	for _, s := range table.Sessions {
		key := noteKey(s.Client, s.Tag)
		there[key]++
		if s.State != impl.StDone {
			delete(p.given, key)
			delete(p.last, key)
			delete(p.rows, key)
			continue
		}
		if rows, known := p.rows[key]; known && !slices.Equal(rows, s.Rows) {
			p.t.Fatalf("the rows of %+v were %q", s, rows)
		}
		p.rows[key] = s.Rows
		if p.given[key] != s.Cursor {
			p.t.Fatalf("the pages of %+v end at %d", s, p.given[key])
		}
	}
	for key := range p.rows {
		if there[key] == 0 {
			p.t.Fatalf("the session %s is gone while it was done", key)
		}
	}
}

// sessionAt has state 0 if there is none.
func sessionAt(table impl.Table, client int, tag string) impl.Session {
	b := ruleBroker{out: impl.Outcome{Table: table}}
	return b.session(client, tag)
}

// responder has an answer for each query, in parts, and answers what is out in
// a drawn order.
type responder struct {
	r     *rand.Rand
	parts map[string][][]string
}

// answerTo draws the answer to a query once: at most 200 rows in all.
func (w *responder) answerTo(query string) [][]string {
	if parts, known := w.parts[query]; known {
		return parts
	}
	n := []int{0, 1, 2, 3, 5, 8, 13, 40, 200}[w.r.Intn(9)]
	var rows []string
	for i := range n {
		rows = append(rows, fmt.Sprintf("%s %d", query, i))
	}
	parts := [][]string{}
	for len(rows) > 0 {
		size := min(len(rows), w.r.Intn(n/3+3))
		parts = append(parts, rows[:size])
		rows = rows[size:]
	}
	for len(parts) == 0 || w.r.Intn(4) == 0 {
		parts = append(parts, nil)
	}
	w.parts[query] = parts
	return parts
}

// reply answers a request with the part that it asks for; pointers are the
// number of the part.
func (w *responder) reply(r impl.Request) string {
	parts, part := w.answerTo(r.Query), 0
	if r.Kind == impl.KindNext {
		part, _ = strconv.Atoi(strings.TrimPrefix(r.Pointer, "part "))
	}
	pointer := ""
	if part+1 < len(parts) {
		pointer = fmt.Sprint("part ", part+1)
	}
	return partText(r.Control, r.Tag, pointer, parts[part]...)
}

// played is a broker with clients and a responder around it, who see only what
// goes out.
type played struct {
	t      *testing.T
	r      *rand.Rand
	conns  int
	events []impl.Event
	web    *responder
	seen   int
	out    map[int][]string
	answer map[string][]string
	next   map[string]string
	opened map[string]string
}

func newPlayed(t *testing.T, r *rand.Rand) *played {
	return &played{t: t, r: r, conns: 1 + r.Intn(4), web: &responder{r: r, parts: map[string][][]string{}}, out: map[int][]string{}, answer: map[string][]string{}, next: map[string]string{}, opened: map[string]string{}}
}

// take adds the bytes, cut into several events, and reads what goes out then.
func (p *played) take(e impl.Event) {
	p.t.Helper()
	for text := e.Bytes; text != ""; {
		size := min(len(text), 1+p.r.Intn(4100))
		p.events = append(p.events, impl.Event{Kind: e.Kind, Conn: e.Conn, Bytes: text[:size]})
		text = text[size:]
	}
	o := impl.Exec(p.conns, p.events)
	for _, out := range o.Outs[p.seen:] {
		p.read(out)
	}
	p.seen = len(o.Outs)
}

func (p *played) read(out impl.Out) {
	p.t.Helper()
	if out.Side == impl.ToUp {
		r, ok := requestIn(out.Body)
		if !ok {
			p.t.Fatalf("no request: %s", tellOut(out))
		}
		p.out[out.Conn] = append(p.out[out.Conn], p.web.reply(r))
		return
	}
	page, ok := replyIn(out.Body)
	key := noteKey(out.Conn, page.Tag)
	if !ok || page.Ack != "AA" {
		p.refused(key, page)
		return
	}
	if _, first := p.opened[key]; !first {
		p.t.Fatalf("a page that was not asked for: %s", tellOut(out))
	}
	p.answer[key] = append(p.answer[key], page.Rows...)
	p.next[key] = page.Pointer
}

// refused is so only for a tag in use and for a full table.
func (p *played) refused(key string, r impl.Reply) {
	p.t.Helper()
	if r.Code != impl.ErrDuplicate && r.Code != impl.ErrInternal || !strings.HasPrefix(r.Control, "again") {
		p.t.Fatalf("%s: %s", key, tellReply(r))
	}
}

func (p *played) ask(client int, r impl.Request) {
	p.t.Helper()
	p.take(fromClient(client, framed(requestMessage(r))))
}

// waiting is the connections on which the responder owes a reply.
func (p *played) waiting() []int {
	var list []int
	for conn := range p.conns {
		if len(p.out[conn]) > 0 {
			list = append(list, conn)
		}
	}
	return list
}

func (p *played) respond() bool {
	p.t.Helper()
	list := p.waiting()
	if len(list) == 0 {
		return false
	}
	conn := list[p.r.Intn(len(list))]
	text := p.out[conn][0]
	p.out[conn] = p.out[conn][1:]
	p.take(fromUp(conn, text))
	return true
}

// turnSome asks for the next page of one session that has a pointer.
func (p *played) turnSome() bool {
	p.t.Helper()
	var keys []string
	for key, pointer := range p.next {
		if pointer != "" {
			keys = append(keys, key)
		}
	}
	if len(keys) == 0 {
		return false
	}
	slices.Sort(keys)
	key := keys[p.r.Intn(len(keys))]
	client, tag, _ := strings.Cut(key, " ")
	n, _ := strconv.Atoi(client)
	p.ask(n, impl.Request{Kind: impl.KindNext, Control: "next", Tag: tag, Pointer: p.next[key]})
	return true
}

func TestEveryQueryGetsItsWholeAnswer(t *testing.T) {
	r := rand.New(rand.NewSource(74))
	whole := 0
	for range 60 {
		p := newPlayed(t, r)
		n := 1 + r.Intn(8)
		for i := 0; i < n; {
			switch r.Intn(4) {
			case 0:
				client, tag := r.Intn(4), fmt.Sprint("tag", i)
				p.opened[noteKey(client, tag)] = fmt.Sprint("query ", r.Intn(5))
				p.ask(client, impl.Request{Kind: impl.KindNew, Control: "first", Tag: tag, Query: p.opened[noteKey(client, tag)], Page: 10 + r.Intn(41)})
				// A second query with the tag is refused and takes nothing away.
				if r.Intn(3) == 0 {
					p.ask(client, impl.Request{Kind: impl.KindNew, Control: "again", Tag: tag, Query: "another", Page: 1})
				}
				i++
			case 1:
				p.turnSome()
			default:
				p.respond()
			}
		}
		for p.respond() {
		}
		for key := range p.opened {
			if _, first := p.next[key]; !first {
				t.Fatalf("no first page for %s in\n\t%s", key, tellEvents(p.events))
			}
		}
		for p.turnSome() {
		}
		for key, query := range p.opened {
			whole++
			if want := slices.Concat(p.web.answerTo(query)...); !slices.Equal(p.answer[key], want) {
				t.Fatalf("%s got %q, want %q", key, p.answer[key], want)
			}
		}
		if o := checkExec(t, p.conns, p.events); slices.ContainsFunc(o.Pool.Conns, func(c impl.Conn) bool { return c.Busy }) || o.Disk.Stable != o.Disk.Now {
			t.Fatalf("something is left: %s", tellOutcome(o))
		}
	}
	if whole < 150 {
		t.Errorf("only %d answers", whole)
	}
}

func TestAnswersOfManyParts(t *testing.T) {
	// 200 parts of one row, and 200 parts of which only some have rows; the
	// replies come in one stream, ahead of what they answer being read.
	for _, rows := range []int{200, 67, 1, 0} {
		events, text := run(opens(1, "a", 50)), ""
		for part := range 200 {
			pointer := fmt.Sprint("part ", part+1)
			if part == 199 {
				pointer = ""
			}
			text += partText(fmt.Sprint("U0-", part), "a", pointer, numbered(200)[part : part+1][:min(1, max(0, rows-part))]...)
		}
		for text != "" {
			size := min(len(text), 4100)
			events = append(events, fromUp(0, text[:size]))
			text = text[size:]
		}
		var got []string
		pointer := ""
		for {
			o := checkExec(t, 1, events)
			page, _ := replyIn(o.Outs[len(o.Outs)-1].Body)
			got = append(got, page.Rows...)
			if pointer = page.Pointer; pointer == "" {
				break
			}
			events = append(events, turns(1, "a", pointer))
		}
		if !slices.Equal(got, numbered(rows)) {
			t.Errorf("%d rows: got %d", rows, len(got))
		}
	}
}

// wrongThing is what is answered with one error, in this state of a broker.
func (s *script) wrongThing() impl.Event {
	sessions := s.broker.out.Table.Sessions
	switch s.r.Intn(4) {
	case 0:
		texts := wrongFrames()
		return fromClient(s.r.Intn(4), texts[s.r.Intn(len(texts))])
	case 1:
		texts := wrongRequests()
		return fromClient(s.r.Intn(4), begin+texts[s.r.Intn(len(texts))][0]+end+ret)
	case 2:
		for _, one := range sessions {
			if one.State <= impl.StDone {
				return opens(one.Client, one.Tag, 1)
			}
		}
	case 3:
		if len(sessions) > 0 {
			one := sessions[s.r.Intn(len(sessions))]
			return turns(one.Client, one.Tag, fmt.Sprint(one.Cursor+1))
		}
	}
	return turns(s.r.Intn(4), "not there", "1")
}

func TestWhatIsWrongGivesOneErrorAndChangesNothing(t *testing.T) {
	r := rand.New(rand.NewSource(75))
	codes := map[int]int{}
	for range 500 {
		s := newScript(r, someTags()...)
		for range r.Intn(40) {
			s.add(s.draw("ooonnnncaaaaaasjtk"))
		}
		if s.broker.out.Dead {
			continue
		}
		e := s.wrongThing()
		// The client's stream may stand in the midst of a frame that noise began.
		if s.broker.streams[fmt.Sprint(e.Kind, " ", e.Conn)].In {
			continue
		}
		before, after := impl.Exec(s.conns, s.events), impl.Exec(s.conns, append(s.events, e))
		if len(after.Outs) != len(before.Outs)+1 || !sameState(before, after) {
			t.Fatalf("%s behind\n\t%s\n%s\nwas\n%s", tellEvents([]impl.Event{e}), tellEvents(s.events), tellOutcome(after), tellOutcome(before))
		}
		out := after.Outs[len(before.Outs)]
		reply, ok := replyIn(out.Body)
		if !ok || out.Side != impl.ToClient || out.Conn != e.Conn || reply.Ack == "AA" {
			t.Fatalf("%s is answered with %s", tellEvents([]impl.Event{e}), tellOut(out))
		}
		codes[reply.Code]++
	}
	for _, code := range []int{100, 101, 102, 200, 203, 204, 205, 207} {
		if codes[code] == 0 {
			t.Errorf("no error %d among %v", code, codes)
		}
	}
}

func TestStaleRepliesChangeNothingInABroker(t *testing.T) {
	r := rand.New(rand.NewSource(76))
	busy := 0
	for range 500 {
		s := newScript(r, someTags()...)
		for range r.Intn(40) {
			s.add(s.draw("ooonncaaaassttk"))
		}
		e := s.stale()
		reply, _ := replyIn(strings.TrimSuffix(strings.TrimPrefix(e.Bytes, begin), end+ret))
		conn := s.broker.out.Pool.Conns[e.Conn]
		if conn.Busy && conn.Control == reply.Control && conn.Want.Tag == reply.Tag {
			continue
		}
		if conn.Busy {
			busy++
		}
		if before, after := impl.Exec(s.conns, s.events), impl.Exec(s.conns, append(s.events, e)); !sameOutcome(before, after) {
			t.Fatalf("%s behind\n\t%s\n%s\nwas\n%s", tellEvents([]impl.Event{e}), tellEvents(s.events), tellOutcome(after), tellOutcome(before))
		}
	}
	if busy < 50 {
		t.Errorf("only %d on a connection with something out", busy)
	}
}

func TestCrashesKeepWhatIsDone(t *testing.T) {
	r := rand.New(rand.NewSource(77))
	states := map[int]int{}
	for range 500 {
		s := newScript(r, manyTags()...)
		for range r.Intn(50) {
			s.add(s.drawStream(livingKinds))
		}
		before := impl.Exec(s.conns, s.events)
		once := impl.Exec(s.conns, append(s.events, crash(randomPicks(r)...)))
		if !sameTable(once.Table, drainFailed(before.Table)) {
			t.Fatalf("%s\nbehind a crash %s", tellTable(before.Table), tellTable(once.Table))
		}
		checkCrashed(t, before, once)
		twice := impl.Exec(s.conns, append(s.events, crash(randomPicks(r)...), crash(randomPicks(r)...)))
		if !sameTable(twice.Table, once.Table) {
			t.Fatalf("%s\nbehind a second crash %s", tellTable(once.Table), tellTable(twice.Table))
		}
		for _, one := range before.Table.Sessions {
			states[one.State]++
		}
	}
	for state := impl.StDrain; state <= impl.StClosed; state++ {
		if states[state] < 50 {
			t.Errorf("states: %v", states)
		}
	}
}

// checkDied holds what a death in the midst of an event and a crash leave
// against what was before and what the whole event would have left.
func checkDied(t *testing.T, before, whole, crashed impl.Table) {
	t.Helper()
	for _, s := range before.Sessions {
		if s.State != impl.StDone {
			continue
		}
		would, is := sessionAt(whole, s.Client, s.Tag), sessionAt(crashed, s.Client, s.Tag)
		if is.State == impl.StDone {
			if !slices.Equal(is.Rows, s.Rows) || is.Cursor < s.Cursor || would.State == impl.StDone && is.Cursor > would.Cursor {
				t.Fatalf("%+v became %+v, and would have become %+v", s, is, would)
			}
		} else if would.State == impl.StDone {
			t.Fatalf("%+v became %+v, and would have stayed %+v", s, is, would)
		}
	}
}

func TestDeathInTheMidstOfAnEvent(t *testing.T) {
	r := rand.New(rand.NewSource(78))
	deaths := 0
	check := func(conns int, before []impl.Event, e impl.Event, n int) bool {
		dying := run(before, life(n), e)
		died := impl.Exec(conns, dying).Dead
		if died {
			deaths++
		}
		for _, picks := range [][]int{nil, randomPicks(r), times(24, 32)} {
			crashed := impl.Exec(conns, run(dying, crash(picks...)))
			checkDied(t, impl.Exec(conns, before).Table, impl.Exec(conns, run(before, e)).Table, crashed.Table)
			if again := impl.Exec(conns, run(dying, crash(picks...), crash(picks...))); !sameTable(again.Table, crashed.Table) {
				t.Fatalf("%s\nbehind a second crash %s", tellTable(crashed.Table), tellTable(again.Table))
			}
		}
		return died
	}
	for _, d := range dyings() {
		for n := range d.steps + 1 {
			check(d.conns, d.before, d.event, n)
		}
	}
	for range 60 {
		s := newScript(r, someTags()...)
		for range r.Intn(40) {
			s.add(s.draw("ooonnncaaaaat"))
		}
		e := s.drawStream("onnnncaat")
		for n := 0; check(s.conns, s.events, e, n); n++ {
		}
	}
	if deaths < 100 {
		t.Errorf("only %d deaths", deaths)
	}
}

// cutAnew joins events of one stream that stand one behind the other and cuts
// their bytes at other places.
func cutAnew(r *rand.Rand, events []impl.Event) []impl.Event {
	var cut []impl.Event
	for i := 0; i < len(events); {
		e := events[i]
		i++
		if e.Kind != impl.EvClient && e.Kind != impl.EvUp {
			cut = append(cut, e)
			continue
		}
		text := e.Bytes
		for i < len(events) && events[i].Kind == e.Kind && events[i].Conn == e.Conn {
			text += events[i].Bytes
			i++
		}
		for text != "" {
			size := min(len(text), 1+r.Intn([]int{30, 300, 4100}[r.Intn(3)]))
			cut = append(cut, impl.Event{Kind: e.Kind, Conn: e.Conn, Bytes: text[:size]})
			text = text[size:]
		}
	}
	return cut
}

func TestHowStreamsAreCutDoesNotMatter(t *testing.T) {
	r := rand.New(rand.NewSource(79))
	other := 0
	for range 400 {
		s := newScript(r, someTags()...)
		for range r.Intn(30) {
			e := s.drawStream(allKinds)
			s.add(e)
			if e.Kind <= impl.EvUp && r.Intn(3) == 0 {
				more := s.draw(allKinds)
				if more.Kind == e.Kind {
					more.Conn = e.Conn
					s.add(more)
				}
			}
		}
		want := impl.Exec(s.conns, s.events)
		for range 3 {
			events := cutAnew(r, s.events)
			if len(events) > impl.MaxEvents {
				continue
			}
			other++
			if got := impl.Exec(s.conns, events); !sameOutcome(got, want) {
				t.Fatalf("Exec(%d,\n\t%s)\n%s\ncut as\n\t%s\n%s", s.conns, tellEvents(s.events), tellOutcome(want), tellEvents(events), tellOutcome(got))
			}
		}
	}
	if other < 500 {
		t.Errorf("only %d other ways to cut", other)
	}
	// Byte by byte.
	text := openText("a", 2) + cancelText("a") + begin + begin + end + ret
	var bytes []impl.Event
	for i := range len(text) {
		bytes = append(bytes, fromClient(2, text[i:i+1]))
	}
	if !sameOutcome(impl.Exec(1, bytes), impl.Exec(1, run(fromClient(2, text)))) {
		t.Errorf("byte by byte it is another outcome")
	}
}

func TestExecLeavesEventsAlone(t *testing.T) {
	r := rand.New(rand.NewSource(80))
	for range 100 {
		s := newScript(r, someTags()...)
		for range 30 {
			e := s.drawStream(allKinds)
			e.Picks = roomy(e.Picks, 77)
			s.add(e)
		}
		events := roomy(s.events, tick(9))
		told := tellEvents(events[:len(events)+2])
		picks := []int{}
		for _, e := range events {
			picks = append(picks, e.Picks[:cap(e.Picks)]...)
		}
		impl.Exec(s.conns, events)
		after := []int{}
		for _, e := range events {
			after = append(after, e.Picks[:cap(e.Picks)]...)
		}
		if tellEvents(events[:len(events)+2]) != told || !slices.Equal(after, picks) {
			t.Fatalf("Exec wrote into its events")
		}
	}
}

func outcomeSpans(o impl.Outcome) []span {
	return append(tableSpans(o.Table), spanOf(o.Outs), spanOf(o.Pool.Conns), spanOf(o.Pool.Queue), textSpan(o.Disk.Stable), textSpan(o.Disk.Now))
}

func TestOutcomesAreNewMemory(t *testing.T) {
	r := rand.New(rand.NewSource(81))
	for range 100 {
		s := newScript(r, manyTags()...)
		for range 40 {
			s.add(s.drawStream(allKinds))
		}
		one, two := impl.Exec(s.conns, s.events), impl.Exec(s.conns, s.events)
		if !sameOutcome(one, two) {
			t.Fatalf("two outcomes of the same events")
		}
		spans := []span{spanOf(s.events)}
		for _, e := range s.events {
			spans = append(spans, spanOf(e.Picks))
		}
		checkApart(t, slices.Concat(outcomeSpans(one), outcomeSpans(two), spans))
	}
}

func TestExecLeavesNoGoroutine(t *testing.T) {
	before := runtime.NumGoroutine()
	for _, d := range dyings() {
		for n := range d.steps + 1 {
			impl.Exec(d.conns, run(d.before, life(n), d.event))
			impl.Exec(d.conns, run(d.before, life(n), d.event, crash(), opens(3, "z", 1)))
		}
	}
	for _, e := range badEvents() {
		impl.Exec(2, []impl.Event{e})
	}
	impl.Exec(0, nil)
	impl.Exec(1, nil)
	// A goroutine that has done its last act may be counted for a moment more.
	for range 100 {
		if runtime.NumGoroutine() <= before {
			return
		}
		time.Sleep(10 * time.Millisecond)
	}
	t.Errorf("%d goroutines before, %d behind Exec", before, runtime.NumGoroutine())
}
