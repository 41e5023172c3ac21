package tests

import (
	"fmt"
	"math"
	"math/rand"
	"regexp"
	"slices"
	"strings"
	"testing"

	"loop.example/s01639/impl"
)

const (
	drain  = impl.StDrain
	done   = impl.StDone
	failed = impl.StFailed
	closed = impl.StClosed
)

var longTag = strings.Repeat("t", 17)

func openOf(client int, tag string) impl.Change {
	return impl.Change{Kind: impl.ChOpen, Client: client, Tag: tag, Query: "find " + tag, Page: 5}
}

func rowsOf(client int, tag string, rows ...string) impl.Change {
	return impl.Change{Kind: impl.ChRows, Client: client, Tag: tag, Rows: rows}
}

func cursorOf(client int, tag string, n int) impl.Change {
	return impl.Change{Kind: impl.ChCursor, Client: client, Tag: tag, N: n}
}

// bareOf is a change that has nothing but its kind, client and tag.
func bareOf(kind, client int, tag string) impl.Change {
	return impl.Change{Kind: kind, Client: client, Tag: tag}
}

// sessionOf is as ChOpen of openOf leaves it, but for the state, rows and cursor.
func sessionOf(client int, tag string, state, cursor int, rows ...string) impl.Session {
	return impl.Session{Client: client, Tag: tag, Query: "find " + tag, Page: 5, State: state, Rows: rows, Cursor: cursor}
}

func tableOf(sessions ...impl.Session) impl.Table {
	return impl.Table{Sessions: sessions}
}

// oneOfEach has a change of every kind, with everything that its kind names.
func oneOfEach() []impl.Change {
	return []impl.Change{openOf(1, "tag"), rowsOf(1, "tag", "a", "", "b"), bareOf(impl.ChDone, 1, "tag"), cursorOf(1, "tag", 7), bareOf(impl.ChFail, 1, "tag"), bareOf(impl.ChClose, 1, "tag")}
}

func tellChange(c impl.Change) string {
	return brief(fmt.Sprintf("{kind %d of %d %q: query %q page %d n %d %d rows %q}", c.Kind, c.Client, c.Tag, c.Query, c.Page, c.N, len(c.Rows), c.Rows))
}

func tellTable(t impl.Table) string {
	parts := []string{}
	for _, s := range t.Sessions {
		parts = append(parts, fmt.Sprintf("{%d %q: %q page %d state %d cursor %d %d rows %.60q}", s.Client, s.Tag, s.Query, s.Page, s.State, s.Cursor, len(s.Rows), s.Rows[:min(len(s.Rows), 4)]))
	}
	return fmt.Sprintf("%d sessions [%.2000s]", len(t.Sessions), strings.Join(parts, " "))
}

func sameChange(a, b impl.Change) bool {
	return a.Kind == b.Kind && a.Client == b.Client && a.Tag == b.Tag && a.Query == b.Query && a.Page == b.Page && a.N == b.N && slices.Equal(a.Rows, b.Rows)
}

func sameTable(a, b impl.Table) bool {
	return slices.EqualFunc(a.Sessions, b.Sessions, func(a, b impl.Session) bool {
		return a.Client == b.Client && a.Tag == b.Tag && a.Query == b.Query && a.Page == b.Page && a.State == b.State && a.Cursor == b.Cursor && slices.Equal(a.Rows, b.Rows)
	})
}

func cloneTable(t impl.Table) impl.Table {
	sessions := slices.Clone(t.Sessions)
	for i, s := range sessions {
		sessions[i].Rows = slices.Clone(s.Rows)
	}
	return impl.Table{Sessions: sessions}
}

func validRows(rows []string) bool {
	return len(rows) <= 200 && !slices.ContainsFunc(rows, func(row string) bool { return !ruleText(row, 0, 200) })
}

// validChange lists what is wrong with a change that is not valid.
func validChange(c impl.Change) bool {
	opens, adds, moves := c.Kind == 1, c.Kind == 2, c.Kind == 4
	return !slices.Contains([]bool{
		c.Kind < 1, c.Kind > 6, c.Client < 0, c.Client > 3, !ruleText(c.Tag, 1, 16),
		opens && !ruleText(c.Query, 0, 200), opens && (c.Page < 1 || c.Page > 50),
		adds && !validRows(c.Rows), moves && (c.N < 0 || c.N > 200),
		!opens && c.Query != "", !opens && c.Page != 0, !adds && len(c.Rows) != 0, !moves && c.N != 0,
	}, true)
}

func validTable(t impl.Table) bool {
	for i, s := range t.Sessions {
		ended := s.State == 3 || s.State == 4
		if slices.Contains([]bool{
			s.Client < 0, s.Client > 3, !ruleText(s.Tag, 1, 16), !ruleText(s.Query, 0, 200),
			s.Page < 1, s.Page > 50, s.State < 1, s.State > 4, !validRows(s.Rows),
			s.Cursor < 0, s.Cursor > len(s.Rows), s.Cursor != 0 && s.State != 2, ended && len(s.Rows) != 0,
		}, true) {
			return false
		}
		for _, other := range t.Sessions[:i] {
			if other.Client == s.Client && other.Tag == s.Tag {
				return false
			}
		}
	}
	return len(t.Sessions) <= 16
}

func ruleEncodeChange(c impl.Change) string {
	if !validChange(c) {
		return ""
	}
	text := fmt.Sprintf("%d\n%d\n%s", c.Kind, c.Client, c.Tag)
	switch c.Kind {
	case 1:
		text += fmt.Sprintf("\n%s\n%d", c.Query, c.Page)
	case 2:
		for _, row := range c.Rows {
			text += "\n" + row
		}
	case 4:
		text += fmt.Sprintf("\n%d", c.N)
	}
	return text
}

var (
	headPattern   = regexp.MustCompile(`\A([1-6])\n([0-3])\n([ -~]{1,16})(\n|\z)`)
	openPattern   = regexp.MustCompile(`\A([^\n]*)\n([1-9]|[1-4][0-9]|50)\z`)
	cursorPattern = regexp.MustCompile(`\A(0|[1-9]|[1-9][0-9]|1[0-9][0-9]|200)\z`)
)

// ruleDecodeChange reads a text from its beginning, and never writes one.
func ruleDecodeChange(s string) (impl.Change, bool) {
	none := impl.Change{}
	head := headPattern.FindStringSubmatch(s)
	if head == nil {
		return none, false
	}
	c := impl.Change{Kind: int(head[1][0] - '0'), Client: int(head[2][0] - '0'), Tag: head[3]}
	rest, more := s[len(head[0]):], head[4] == "\n"
	switch c.Kind {
	case 1:
		parts := openPattern.FindStringSubmatch(rest)
		if !more || parts == nil || !ruleText(parts[1], 0, 200) {
			return none, false
		}
		c.Query, c.Page = parts[1], slices.Index(pageTexts(), parts[2])+1
	case 2:
		if more {
			c.Rows = strings.Split(rest, "\n")
		}
		if !validRows(c.Rows) {
			return none, false
		}
	case 4:
		if !more || !cursorPattern.MatchString(rest) {
			return none, false
		}
		fmt.Sscan(rest, &c.N)
	default:
		if more {
			return none, false
		}
	}
	return c, true
}

func checkEncodeChange(t *testing.T, c impl.Change, want string) {
	t.Helper()
	if got := impl.EncodeChange(c); got != want {
		t.Fatalf("EncodeChange(%s): %s, want %s", tellChange(c), short(got), short(want))
	}
}

func checkDecodeChange(t *testing.T, s string, want impl.Change, ok bool) {
	t.Helper()
	got, gotOk := impl.DecodeChange(s)
	if !sameChange(got, want) || gotOk != ok {
		t.Fatalf("DecodeChange(%s): %s %v, want %s %v", short(s), tellChange(got), gotOk, tellChange(want), ok)
	}
}

// checkNoChange asks that a text is not read.
func checkNoChange(t *testing.T, texts ...string) {
	t.Helper()
	for _, s := range texts {
		checkDecodeChange(t, s, impl.Change{}, false)
	}
}

// checkDecodeRule holds DecodeChange against the second reading of its rules.
func checkDecodeRule(t *testing.T, s string) bool {
	t.Helper()
	want, ok := ruleDecodeChange(s)
	checkDecodeChange(t, s, want, ok)
	return ok
}

// checkChange asks that a change is taken by all who take changes if it is good, and by none if not.
func checkChange(t *testing.T, c impl.Change, good bool) {
	t.Helper()
	if validChange(c) != good {
		t.Fatalf("the rule says %v of %s", !good, tellChange(c))
	}
	text := ruleEncodeChange(c)
	checkEncodeChange(t, c, text)
	if good {
		checkDecodeChange(t, text, c, true)
	}
	table := tableOf(sessionOf(1, "tag", drain, 0, "r"), sessionOf(2, "tag", done, 1, "r"))
	if next, code := impl.Apply(table, c); (code != impl.ApInvalid) != good || !good && len(next.Sessions) != 0 {
		t.Fatalf("Apply of %s: %s %d", tellChange(c), tellTable(next), code)
	}
}

func TestEncodeChangeOfEachKind(t *testing.T) {
	for _, c := range []struct {
		change impl.Change
		text   string
	}{
		{impl.Change{Kind: impl.ChOpen, Client: 3, Tag: "t 1", Query: "a|b", Page: 50}, "1\n3\nt 1\na|b\n50"},
		{impl.Change{Kind: impl.ChOpen, Tag: "t", Page: 1}, "1\n0\nt\n\n1"},
		{rowsOf(1, "t", "a", "", "b"), "2\n1\nt\na\n\nb"},
		{rowsOf(1, "t"), "2\n1\nt"},
		{rowsOf(1, "t", ""), "2\n1\nt\n"},
		{rowsOf(1, "t", "", ""), "2\n1\nt\n\n"},
		{bareOf(impl.ChDone, 2, "t"), "3\n2\nt"},
		{cursorOf(0, "t", 0), "4\n0\nt\n0"},
		{cursorOf(0, "t", 200), "4\n0\nt\n200"},
		{bareOf(impl.ChFail, 0, " "), "5\n0\n "},
		{bareOf(impl.ChClose, 3, "6"), "6\n3\n6"},
	} {
		checkEncodeChange(t, c.change, c.text)
		checkDecodeChange(t, c.text, c.change, true)
		checkChange(t, c.change, true)
	}
}

func TestChangesAtEachLimit(t *testing.T) {
	for _, c := range oneOfEach() {
		for n := -2; n <= 6; n++ {
			c.Client = n
			checkChange(t, c, n >= 0 && n <= 3)
		}
		for _, n := range []int{math.MinInt, math.MaxInt, 1 << 32} {
			c.Client = n
			checkChange(t, c, false)
		}
	}
	for _, c := range oneOfEach() {
		for size := range 20 {
			c.Tag = strings.Repeat("x", size)
			checkChange(t, c, size >= 1 && size <= 16)
		}
	}
	open, cursor := openOf(1, "tag"), cursorOf(1, "tag", 0)
	for _, size := range []int{0, 1, 199, 200, 201, 100000} {
		open.Query = strings.Repeat("q", size)
		checkChange(t, open, size <= 200)
	}
	open.Query = "q"
	for _, n := range []int{math.MinInt, -1, 0, 1, 2, 49, 50, 51, 1<<32 + 1, math.MaxInt} {
		open.Page = n
		checkChange(t, open, n >= 1 && n <= 50)
	}
	for _, n := range []int{math.MinInt, -1, 0, 1, 199, 200, 201, 1 << 32, math.MaxInt} {
		cursor.N = n
		checkChange(t, cursor, n >= 0 && n <= 200)
	}
}

func TestRowsAtEachLimit(t *testing.T) {
	for _, n := range []int{0, 1, 2, 199, 200, 201, 202, 5000} {
		for _, row := range []string{"", "r", longText[1:]} {
			checkChange(t, rowsOf(0, "t", times(n, row)...), n <= 200)
		}
	}
	for _, place := range []int{0, 1, 100, 198, 199} {
		rows := times(200, "r")
		for _, bad := range []string{longText, "a\nb", "\n", "\x1f", "\x7f", "\x80", "é"} {
			rows[place] = bad
			checkChange(t, rowsOf(0, "t", rows...), false)
		}
		rows[place] = longText[1:]
		checkChange(t, rowsOf(0, "t", rows...), true)
	}
}

func TestTextsOfChangesArePlain(t *testing.T) {
	for b := range 256 {
		text, plain := "a"+string([]byte{byte(b)}), b >= 32 && b <= 126
		for _, c := range oneOfEach() {
			c.Tag = text
			checkChange(t, c, plain)
		}
		open := openOf(0, "t")
		open.Query = text
		checkChange(t, open, plain)
		checkChange(t, rowsOf(0, "t", "r", text), plain)
	}
}

func TestChangesWithWhatTheirKindDoesNotName(t *testing.T) {
	named := map[int]string{impl.ChOpen: "query page", impl.ChRows: "rows", impl.ChCursor: "n"}
	for _, c := range oneOfEach() {
		try := func(name string, set func(*impl.Change)) {
			changed := c
			set(&changed)
			checkChange(t, changed, strings.Contains(named[c.Kind], name))
		}
		try("query", func(c *impl.Change) { c.Query = "other" })
		try("query", func(c *impl.Change) { c.Query = " " })
		try("page", func(c *impl.Change) { c.Page = 1 })
		try("page", func(c *impl.Change) { c.Page = 10 })
		try("rows", func(c *impl.Change) { c.Rows = []string{"r"} })
		try("rows", func(c *impl.Change) { c.Rows = []string{""} })
		try("n", func(c *impl.Change) { c.N = 1 })
		c.N += 201
		checkChange(t, c, false)
		c.N = -1
		checkChange(t, c, false)
	}
	// The empty list is the nil list.
	for _, c := range oneOfEach() {
		if c.Kind != impl.ChRows {
			c.Rows = []string{}
			checkChange(t, c, true)
		}
	}
	checkChange(t, impl.Change{Kind: impl.ChRows, Tag: "t", Rows: []string{}}, true)
}

func TestKindsThatAreNone(t *testing.T) {
	checkChange(t, impl.Change{}, false)
	for _, c := range oneOfEach() {
		for _, kind := range []int{math.MinInt, -6, -1, 0, 7, 8, 257, 1<<32 + 1, math.MaxInt} {
			c.Kind = kind
			checkChange(t, c, false)
			checkChange(t, bareOf(kind, 1, "tag"), false)
		}
	}
}

func TestDecodeChangeWithPartsTooManyOrTooFew(t *testing.T) {
	for _, c := range oneOfEach() {
		parts := strings.Split(ruleEncodeChange(c), "\n")
		for n := range len(parts) {
			if c.Kind != impl.ChRows || n < 3 {
				checkNoChange(t, strings.Join(parts[:n], "\n"))
			}
			checkDecodeRule(t, strings.Join(slices.Delete(slices.Clone(parts), n, n+1), "\n"))
			checkDecodeRule(t, strings.Join(slices.Insert(slices.Clone(parts), n, "1"), "\n"))
		}
		whole := strings.Join(parts, "\n")
		for _, more := range []string{"\n", "\n\n", "\nx", "\n1", "\r"} {
			if c.Kind != impl.ChRows {
				checkNoChange(t, whole+more)
			}
			checkDecodeRule(t, whole+more)
		}
		checkNoChange(t, "\n"+whole, " "+whole)
	}
	// A newline more behind rows is an empty row more, as long as there may be one.
	checkDecodeChange(t, "2\n0\nt", rowsOf(0, "t"), true)
	checkDecodeChange(t, "2\n0\nt\n", rowsOf(0, "t", ""), true)
	checkDecodeChange(t, "2\n0\nt\na\n", rowsOf(0, "t", "a", ""), true)
	most := "2\n0\nt" + strings.Repeat("\n", 200)
	checkDecodeChange(t, most, rowsOf(0, "t", times(200, "")...), true)
	checkNoChange(t, most+"\n", most+"\n\n", most+"a\n")
	checkNoChange(t, "", "\n", "\n\n", "1", "2\n0", "2\n0\n", "3\n0\n", "2\n0\n\n", "3\n\nt", "\n0\nt")
}

func TestDecodeChangeWithOtherDecimals(t *testing.T) {
	for _, n := range []int{0, 1, 2, 3, 4, 5, 6, 7, 9, 10, 49, 50, 51, 99, 100, 199, 200, 201, 1 << 32} {
		plain := fmt.Sprint(n)
		checkDecodeRule(t, plain+"\n0\nt")
		checkDecodeRule(t, "3\n"+plain+"\nt")
		checkDecodeRule(t, "1\n0\nt\nq\n"+plain)
		checkDecodeRule(t, "4\n0\nt\n"+plain)
		others := []string{"", "+" + plain, "-" + plain, "0" + plain, "00" + plain, " " + plain, plain + " ", plain + ".0", "0x" + plain, plain + "_0", "1_" + plain, plain + strings.Repeat("0", 30), strings.Repeat("0", 30) + plain, "18446744073709551617", "9223372036854775808", "--" + plain, "\t" + plain, plain + "\r", plain + "e0", "٣"}
		for _, other := range others {
			checkNoChange(t, other+"\n0\nt", other+"\n0\nt\nq\n1", other+"\n0\nt\n5")
			checkNoChange(t, "1\n"+other+"\nt\nq\n5", "2\n"+other+"\nt\nrow", "3\n"+other+"\nt", "4\n"+other+"\nt\n5")
			checkNoChange(t, "1\n0\nt\nq\n"+other, "4\n0\nt\n"+other)
		}
	}
}

// Any text that is a change but for one byte more, less or other.
func TestDecodeChangeOfTextsWithOneByteChanged(t *testing.T) {
	bytes := "\n0159t -+\x00\x1f~\x7f\xff"
	read := 0
	for _, c := range append(oneOfEach(), rowsOf(0, "t"), rowsOf(3, longTag[1:], longText[1:]), cursorOf(0, "0", 200)) {
		text := ruleEncodeChange(c)
		for i := range len(text) + 1 {
			for _, b := range []byte(bytes) {
				if checkDecodeRule(t, text[:i]+string([]byte{b})+text[i:]) {
					read++
				}
				if i < len(text) && checkDecodeRule(t, setByte(text, i, b)) {
					read++
				}
			}
			if i < len(text) {
				checkDecodeRule(t, text[:i]+text[i+1:])
			}
		}
	}
	if read == 0 {
		t.Fatal("no text with one byte changed was read")
	}
}

func TestDecodeChangeOfShortTexts(t *testing.T) {
	read := map[int]int{}
	eachText([]string{"\n", "0\n", "1\n", "2\n", "3\n", "4\n", "t\n", "t", "0", "6"}, 5, func(s string) {
		if checkDecodeRule(t, s) {
			read[int(s[0]-'0')]++
		}
	})
	for kind := 1; kind <= 4; kind++ {
		if read[kind] == 0 {
			t.Errorf("no text of kind %d was read", kind)
		}
	}
	for _, size := range []int{impl.MaxRecord, impl.MaxRecord + 1, 10000000} {
		checkNoChange(t, strings.Repeat("\n", size), strings.Repeat("2", size), "2\n0\nt\n"+strings.Repeat("x", size), "2\n0\nt\n"+strings.Repeat("\n", size))
	}
}

// ruleApply follows the words of the document over lists, and finds sessions by looking at each.
func ruleApply(t impl.Table, c impl.Change) (impl.Table, int) {
	if !validTable(t) || !validChange(c) {
		return impl.Table{}, 9
	}
	next := cloneTable(t)
	mine, state := -1, 0
	for i, s := range t.Sessions {
		if s.Client == c.Client && s.Tag == c.Tag {
			mine, state = i, s.State
		}
	}
	if c.Kind == 1 {
		return ruleOpen(t, next, c, mine, state)
	}
	states := map[int]string{2: "1", 3: "1", 4: "2", 5: "1", 6: "12"}
	if mine < 0 || !strings.Contains(states[c.Kind], fmt.Sprint(state)) {
		return t, 3
	}
	s := &next.Sessions[mine]
	switch c.Kind {
	case 2:
		s.Rows = append(s.Rows, c.Rows...)
	case 3:
		s.State = 2
	case 4:
		s.Cursor = c.N
	case 5, 6:
		s.State, s.Rows, s.Cursor = c.Kind-2, nil, 0
	}
	if len(s.Rows) > 200 || s.Cursor > len(s.Rows) {
		return t, 4
	}
	return next, 0
}

func ruleOpen(t, next impl.Table, c impl.Change, mine, state int) (impl.Table, int) {
	if state == 1 || state == 2 {
		return t, 1
	}
	if mine < 0 && len(t.Sessions) == 16 {
		mine = slices.IndexFunc(t.Sessions, func(s impl.Session) bool { return s.State > 2 })
		if mine < 0 {
			return t, 2
		}
	}
	if mine >= 0 {
		next.Sessions = slices.Delete(next.Sessions, mine, mine+1)
	}
	next.Sessions = append(next.Sessions, impl.Session{Client: c.Client, Tag: c.Tag, Query: c.Query, Page: c.Page, State: 1})
	return next, 0
}

func checkApply(t *testing.T, table impl.Table, c impl.Change, want impl.Table, code int) {
	t.Helper()
	got, gotCode := impl.Apply(table, c)
	if !sameTable(got, want) || gotCode != code {
		t.Fatalf("Apply(%s, %s): %s %d, want %s %d", tellTable(table), tellChange(c), tellTable(got), gotCode, tellTable(want), code)
	}
}

// checkApplyRule holds Apply against the second reading of its rules, and gives what it should answer.
func checkApplyRule(t *testing.T, table impl.Table, c impl.Change) (impl.Table, int) {
	t.Helper()
	want, code := ruleApply(table, c)
	checkApply(t, table, c, want, code)
	return want, code
}

// badSessions are not valid, each for one reason.
func badSessions() []impl.Session {
	var bad []impl.Session
	add := func(state int, changes ...func(s *impl.Session)) {
		for _, change := range changes {
			s := sessionOf(1, "tag", state, 0)
			if state == drain || state == done {
				s.Rows = []string{"a", "b"}
			}
			change(&s)
			bad = append(bad, s)
		}
	}
	for state := drain; state <= closed; state++ {
		add(state,
			func(s *impl.Session) { s.Client = -1 }, func(s *impl.Session) { s.Client = 4 },
			func(s *impl.Session) { s.Tag = "" }, func(s *impl.Session) { s.Tag = longTag }, func(s *impl.Session) { s.Tag = "a\n" }, func(s *impl.Session) { s.Tag = "\x7f" },
			func(s *impl.Session) { s.Query = longText }, func(s *impl.Session) { s.Query = "q\n" }, func(s *impl.Session) { s.Query = "é" },
			func(s *impl.Session) { s.Page = 0 }, func(s *impl.Session) { s.Page = -1 }, func(s *impl.Session) { s.Page = 51 }, func(s *impl.Session) { s.Page = math.MaxInt },
			func(s *impl.Session) { s.Rows = times(201, "r") }, func(s *impl.Session) { s.Rows = []string{"a", longText} }, func(s *impl.Session) { s.Rows = []string{"a\n", "b"} }, func(s *impl.Session) { s.Rows = []string{"a", "b", "\x00"} },
			func(s *impl.Session) { s.Cursor = -1 }, func(s *impl.Session) { s.Cursor = len(s.Rows) + 1 }, func(s *impl.Session) { s.Cursor = math.MaxInt }, func(s *impl.Session) { s.Cursor = math.MinInt },
			func(s *impl.Session) { s.State = 0 }, func(s *impl.Session) { s.State = 5 }, func(s *impl.Session) { s.State = -1 }, func(s *impl.Session) { s.State = 256 + state })
	}
	add(drain, func(s *impl.Session) { s.Cursor = 1 }, func(s *impl.Session) { s.Cursor = 2 })
	for _, state := range []int{failed, closed} {
		add(state, func(s *impl.Session) { s.Rows = []string{"a"} }, func(s *impl.Session) { s.Rows = []string{""} }, func(s *impl.Session) { s.Rows, s.Cursor = []string{"a"}, 1 })
	}
	return bad
}

// manySessions has n sessions with different tags, the clients in turn.
func manySessions(n int, state int) []impl.Session {
	var sessions []impl.Session
	for i := range n {
		sessions = append(sessions, sessionOf(i%4, string(rune('a'+i)), state, 0))
	}
	return sessions
}

func checkBadTable(t *testing.T, table impl.Table) {
	t.Helper()
	if validTable(table) {
		t.Fatalf("the rule takes %s", tellTable(table))
	}
	for _, c := range append(oneOfEach(), openOf(3, "new"), bareOf(9, 1, "tag"), impl.Change{}) {
		checkApply(t, table, c, impl.Table{}, impl.ApInvalid)
	}
	if got := impl.Snapshot(table); got != "" {
		t.Fatalf("Snapshot(%s): %s, want none", tellTable(table), short(got))
	}
}

func TestTablesThatAreNotValid(t *testing.T) {
	for _, bad := range badSessions() {
		checkBadTable(t, tableOf(bad))
		for place := range 3 {
			some := []impl.Session{sessionOf(1, "other", drain, 0), sessionOf(2, "other", failed, 0)}
			checkBadTable(t, tableOf(slices.Insert(some, place, bad)...))
		}
		checkBadTable(t, tableOf(append(manySessions(15, closed), bad)...))
	}
	for state := drain; state <= closed; state++ {
		for other := drain; other <= closed; other++ {
			first, second := sessionOf(1, "tag", state, 0), sessionOf(1, "tag", other, 0)
			second.Query, second.Page = "another", 6
			checkBadTable(t, tableOf(first, second))
			checkBadTable(t, tableOf(first, sessionOf(2, "tag", done, 0), sessionOf(1, "other", done, 0), second))
		}
		checkBadTable(t, tableOf(manySessions(17, state)...))
		checkBadTable(t, tableOf(manySessions(100, state)...))
	}
}

func TestTablesAtTheirLimits(t *testing.T) {
	full := longText[1:]
	most := impl.Session{Client: 3, Tag: longTag[1:], Query: full, Page: 50, State: done, Rows: times(200, full), Cursor: 200}
	least := impl.Session{Tag: "t", Page: 1, State: drain}
	table := tableOf(append([]impl.Session{most, least}, manySessions(14, done)...)...)
	checkApply(t, table, openOf(1, "new"), table, impl.ApFull)
	next, code := impl.Apply(table, bareOf(impl.ChDone, 0, "t"))
	if code != impl.ApOk || next.Sessions[1].State != done || !validTable(next) {
		t.Errorf("ChDone: %s %d", tellTable(next), code)
	}
	checkApplyRule(t, table, cursorOf(3, longTag[1:], 0))
}

// codesByState has for each kind the codes with no session and with one in each state.
var codesByState = [7][5]int{
	impl.ChOpen:   {0, impl.ApDuplicate, impl.ApDuplicate, 0, 0},
	impl.ChRows:   {impl.ApNone, 0, impl.ApNone, impl.ApNone, impl.ApNone},
	impl.ChDone:   {impl.ApNone, 0, impl.ApNone, impl.ApNone, impl.ApNone},
	impl.ChCursor: {impl.ApNone, impl.ApNone, 0, impl.ApNone, impl.ApNone},
	impl.ChFail:   {impl.ApNone, 0, impl.ApNone, impl.ApNone, impl.ApNone},
	impl.ChClose:  {impl.ApNone, 0, 0, impl.ApNone, impl.ApNone},
}

// sessionIn is a session with rows and a cursor where its state has them; none for state 0.
func sessionIn(client int, tag string, state int) []impl.Session {
	switch state {
	case 0:
		return nil
	case drain:
		return []impl.Session{sessionOf(client, tag, drain, 0, "x", "y")}
	case done:
		return []impl.Session{sessionOf(client, tag, done, 1, "x", "y", "z", "", "v", "w", "u")}
	}
	return []impl.Session{sessionOf(client, tag, state, 0)}
}

func TestApplyOfEachKindInEachState(t *testing.T) {
	for _, c := range oneOfEach() {
		for state := range 5 {
			for others := range 25 {
				before := slices.Concat(sessionIn(2, "tag", others%5), sessionIn(1, "Tag", others/5))
				behind := slices.Concat(sessionIn(0, "tag", others/5), sessionIn(1, "tag ", others%5))
				table := tableOf(slices.Concat(before, sessionIn(1, "tag", state), behind)...)
				next, code := checkApplyRule(t, table, c)
				if code != codesByState[c.Kind][state] {
					t.Fatalf("kind %d in state %d: the rule gives %d", c.Kind, state, code)
				}
				if code != 0 && !sameTable(next, table) {
					t.Fatalf("kind %d in state %d: the rule changes the table", c.Kind, state)
				}
			}
		}
	}
}

func TestApplyWritten(t *testing.T) {
	a, b := sessionOf(1, "a", drain, 0, "x"), sessionOf(2, "a", failed, 0)
	table := tableOf(a, b)
	checkApply(t, impl.Table{}, openOf(1, "a"), tableOf(sessionOf(1, "a", drain, 0)), 0)
	checkApply(t, table, openOf(1, "b"), tableOf(a, b, sessionOf(1, "b", drain, 0)), 0)
	checkApply(t, table, openOf(0, "a"), tableOf(a, b, sessionOf(0, "a", drain, 0)), 0)
	checkApply(t, table, openOf(2, "a"), tableOf(a, sessionOf(2, "a", drain, 0)), 0)
	checkApply(t, tableOf(b, a), openOf(2, "a"), tableOf(a, sessionOf(2, "a", drain, 0)), 0)
	checkApply(t, table, rowsOf(1, "a", "y", "", "x"), tableOf(sessionOf(1, "a", drain, 0, "x", "y", "", "x"), b), 0)
	checkApply(t, table, rowsOf(1, "a"), table, 0)
	checkApply(t, table, bareOf(impl.ChDone, 1, "a"), tableOf(sessionOf(1, "a", done, 0, "x"), b), 0)
	checkApply(t, table, bareOf(impl.ChFail, 1, "a"), tableOf(sessionOf(1, "a", failed, 0), b), 0)
	checkApply(t, table, bareOf(impl.ChClose, 1, "a"), tableOf(sessionOf(1, "a", closed, 0), b), 0)
	ready := tableOf(b, sessionOf(3, "a", done, 1, "x", "y"))
	checkApply(t, ready, cursorOf(3, "a", 2), tableOf(b, sessionOf(3, "a", done, 2, "x", "y")), 0)
	checkApply(t, ready, cursorOf(3, "a", 0), tableOf(b, sessionOf(3, "a", done, 0, "x", "y")), 0)
	checkApply(t, ready, cursorOf(3, "a", 3), ready, impl.ApMany)
	checkApply(t, ready, bareOf(impl.ChClose, 3, "a"), tableOf(b, sessionOf(3, "a", closed, 0)), 0)
	again := impl.Change{Kind: impl.ChOpen, Client: 2, Tag: "a", Query: "another", Page: 50}
	checkApply(t, table, again, tableOf(a, impl.Session{Client: 2, Tag: "a", Query: "another", Page: 50, State: drain}), 0)
}

func TestOpenInAFullTable(t *testing.T) {
	full := manySessions(16, drain)
	for i := range full {
		if i%3 == 0 {
			full[i] = sessionOf(full[i].Client, full[i].Tag, done, 1, "r")
		}
	}
	fresh := sessionOf(1, "new", drain, 0)
	checkApply(t, tableOf(full...), openOf(1, "new"), tableOf(full...), impl.ApFull)
	checkApply(t, tableOf(full[:15]...), openOf(1, "new"), tableOf(append(slices.Clone(full[:15]), fresh)...), 0)
	for i := range 16 {
		for _, state := range []int{failed, closed} {
			one := slices.Clone(full)
			one[i] = sessionOf(one[i].Client, one[i].Tag, state, 0)
			left := slices.Delete(slices.Clone(one), i, i+1)
			checkApply(t, tableOf(one...), openOf(1, "new"), tableOf(append(slices.Clone(left), fresh)...), 0)
			own := openOf(one[i].Client, one[i].Tag)
			checkApply(t, tableOf(one...), own, tableOf(append(slices.Clone(left), sessionOf(own.Client, own.Tag, drain, 0))...), 0)
			checkApply(t, tableOf(one...), openOf((own.Client+1)%4, own.Tag), tableOf(append(slices.Clone(left), sessionOf((own.Client+1)%4, own.Tag, drain, 0))...), 0)
			live := openOf(one[(i+1)%16].Client, one[(i+1)%16].Tag)
			checkApply(t, tableOf(one...), live, tableOf(one...), impl.ApDuplicate)
			checkOpenWithTwoEnded(t, one, i)
		}
	}
}

// checkOpenWithTwoEnded ends a second session: the first goes, but for the tag's own session, which goes alone.
func checkOpenWithTwoEnded(t *testing.T, one []impl.Session, i int) {
	t.Helper()
	for k := range 16 {
		if k == i {
			continue
		}
		two := slices.Clone(one)
		two[k] = sessionOf(two[k].Client, two[k].Tag, failed+closed-one[i].State, 0)
		first := min(i, k)
		left := slices.Delete(slices.Clone(two), first, first+1)
		checkApply(t, tableOf(two...), openOf(1, "new"), tableOf(append(left, sessionOf(1, "new", drain, 0))...), 0)
		left = slices.Delete(slices.Clone(two), k, k+1)
		checkApply(t, tableOf(two...), openOf(two[k].Client, two[k].Tag), tableOf(append(left, sessionOf(two[k].Client, two[k].Tag, drain, 0))...), 0)
	}
}

func TestRowsAndCursorsAtTheirLimits(t *testing.T) {
	for _, had := range []int{0, 1, 100, 199, 200} {
		for _, more := range []int{0, 1, 99, 100, 101, 199, 200} {
			session, other := sessionOf(1, "tag", drain, 0, times(had, "old")...), sessionOf(0, "tag", drain, 0, times(200, "o")...)
			table := tableOf(other, session)
			add := rowsOf(1, "tag", times(more, "new")...)
			if had+more > 200 {
				checkApply(t, table, add, table, impl.ApMany)
				continue
			}
			session.Rows = slices.Concat(times(had, "old"), times(more, "new"))
			checkApply(t, table, add, tableOf(other, session), 0)
		}
		for n := range 201 {
			table := tableOf(sessionOf(1, "tag", done, had, times(had, "r")...))
			want, code := table, impl.ApMany
			if n <= had {
				want, code = tableOf(sessionOf(1, "tag", done, n, times(had, "r")...)), 0
			}
			checkApply(t, table, cursorOf(1, "tag", n), want, code)
		}
		checkApply(t, tableOf(sessionOf(1, "tag", done, 0, times(had, "r")...)), cursorOf(1, "tag", 201), impl.Table{}, impl.ApInvalid)
	}
}

func randomRows(r *rand.Rand) []string {
	n := r.Intn(5)
	if r.Intn(8) == 0 {
		n = 197 + r.Intn(4)
	}
	rows := make([]string, n)
	for i := range rows {
		rows[i] = randomText(r, 0, 3)
	}
	return rows
}

func randomTag(r *rand.Rand) string {
	return []string{"a", "b", "A", " ", longTag[1:]}[r.Intn(5)]
}

// randomTable is always valid; often it is full, and often all of it is live.
func randomTable(r *rand.Rand) impl.Table {
	n := r.Intn(17)
	if r.Intn(3) == 0 {
		n = 16
	}
	states := 2 + 2*r.Intn(2)
	var t impl.Table
	for len(t.Sessions) < n {
		s := impl.Session{Client: r.Intn(4), Tag: randomTag(r), Query: randomText(r, 0, 5), Page: 1 + r.Intn(50), State: 1 + r.Intn(states)}
		if slices.ContainsFunc(t.Sessions, func(other impl.Session) bool { return other.Client == s.Client && other.Tag == s.Tag }) {
			continue
		}
		if s.State <= done {
			s.Rows = randomRows(r)
		}
		if s.State == done {
			s.Cursor = r.Intn(len(s.Rows) + 1)
		}
		t.Sessions = append(t.Sessions, s)
	}
	return t
}

// randomChange is always valid.
func randomChange(r *rand.Rand) impl.Change {
	c := impl.Change{Kind: 1 + r.Intn(6), Client: r.Intn(4), Tag: randomTag(r)}
	switch c.Kind {
	case impl.ChOpen:
		c.Query, c.Page = randomText(r, 0, 5), 1+r.Intn(50)
	case impl.ChRows:
		c.Rows = randomRows(r)
	case impl.ChCursor:
		c.N = r.Intn(5)
		if r.Intn(3) == 0 {
			c.N = r.Intn(201)
		}
	}
	return c
}

// Promise 6: every valid change comes back.
func TestChangesComeBack(t *testing.T) {
	r := rand.New(rand.NewSource(51))
	for range 20000 {
		c := randomChange(r)
		c.Tag = randomText(r, 1, 16)
		if c.Kind == impl.ChOpen {
			c.Query = randomText(r, 0, 200)
		}
		for i := range c.Rows {
			if r.Intn(20) == 0 {
				c.Rows[i] = randomText(r, 190, 200)
			}
		}
		checkChange(t, c, true)
	}
	longest := rowsOf(3, longTag[1:], times(200, longText[1:])...)
	checkChange(t, longest, true)
	if impl.Record(impl.EncodeChange(longest)) == "" {
		t.Error("the longest change has no record")
	}
}

// Promise 6: a valid table stays so, and is the same at every code other than ApOk.
func TestApplyToRandomTables(t *testing.T) {
	r := rand.New(rand.NewSource(52))
	met := map[[2]int]int{}
	for range 20000 {
		table, c := randomTable(r), randomChange(r)
		_, code := checkApplyRule(t, table, c)
		met[[2]int{c.Kind, code}]++
		got, _ := impl.Apply(table, c)
		if !validTable(got) {
			t.Fatalf("Apply(%s, %s): %s", tellTable(table), tellChange(c), tellTable(got))
		}
		if code != impl.ApOk && !sameTable(got, table) {
			t.Fatalf("Apply(%s, %s): %s %d", tellTable(table), tellChange(c), tellTable(got), code)
		}
	}
	for _, pair := range [][2]int{{1, 0}, {1, 1}, {1, 2}, {2, 0}, {2, 3}, {2, 4}, {3, 0}, {3, 3}, {4, 0}, {4, 3}, {4, 4}, {5, 0}, {5, 3}, {6, 0}, {6, 3}} {
		if met[pair] < 20 {
			t.Errorf("kind %d with code %d was met %d times", pair[0], pair[1], met[pair])
		}
	}
}

func TestApplyOneChangeBehindTheOther(t *testing.T) {
	r := rand.New(rand.NewSource(53))
	for range 100 {
		table := impl.Table{}
		for range 200 {
			table, _ = checkApplyRule(t, table, randomChange(r))
		}
	}
}

func TestApplyToRandomTablesThatAreNotValid(t *testing.T) {
	r := rand.New(rand.NewSource(54))
	bad := badSessions()
	for range 2000 {
		table := randomTable(r)
		if len(table.Sessions) == 0 {
			continue
		}
		harmed := cloneTable(table)
		harmed.Sessions[r.Intn(len(table.Sessions))] = bad[r.Intn(len(bad))]
		checkApply(t, harmed, randomChange(r), impl.Table{}, impl.ApInvalid)
		doubled := cloneTable(table)
		doubled.Sessions = slices.Insert(doubled.Sessions, r.Intn(len(table.Sessions)+1), table.Sessions[r.Intn(len(table.Sessions))])
		checkApply(t, doubled, randomChange(r), impl.Table{}, impl.ApInvalid)
		c := randomChange(r)
		c.Kind += 6
		checkApply(t, table, c, impl.Table{}, impl.ApInvalid)
	}
}

// drainFailed is a table with every session that is StDrain as StFailed.
func drainFailed(t impl.Table) impl.Table {
	t = cloneTable(t)
	for i, s := range t.Sessions {
		if s.State == drain {
			t.Sessions[i].State, t.Sessions[i].Rows = failed, nil
		}
	}
	return t
}

func ruleRecover(image string) impl.Table {
	table := impl.Table{}
	texts, _ := ruleReadLog(image)
	for _, text := range texts {
		c, ok := ruleDecodeChange(text)
		next, code := ruleApply(table, c)
		if !ok || code != 0 {
			break
		}
		table = next
	}
	return drainFailed(table)
}

func checkRecover(t *testing.T, image string, want impl.Table) {
	t.Helper()
	if got := impl.Recover(image); !sameTable(got, want) {
		t.Fatalf("Recover(%s): %s, want %s", short(image), tellTable(got), tellTable(want))
	}
}

func changesLog(changes ...impl.Change) string {
	image := ""
	for _, c := range changes {
		image += impl.Record(ruleEncodeChange(c))
	}
	return image
}

// someChanges can be applied one after the other, and use every kind.
func someChanges() []impl.Change {
	return []impl.Change{
		openOf(0, "a"), openOf(1, "a"), rowsOf(0, "a", "x", "y"), openOf(0, "b"), rowsOf(0, "a", "", "z"), rowsOf(1, "a", longText[1:]),
		bareOf(impl.ChDone, 0, "a"), bareOf(impl.ChFail, 0, "b"), cursorOf(0, "a", 3), openOf(2, "c"), bareOf(impl.ChClose, 2, "c"), openOf(0, "b"), rowsOf(0, "b", "r"),
	}
}

func TestRecoverWritten(t *testing.T) {
	checkRecover(t, "", impl.Table{})
	changes := someChanges()
	ready := sessionOf(0, "a", done, 3, "x", "y", "", "z")
	checkRecover(t, changesLog(changes...), tableOf(ready, sessionOf(1, "a", failed, 0), sessionOf(2, "c", closed, 0), sessionOf(0, "b", failed, 0)))
	checkRecover(t, changesLog(changes[:9]...), tableOf(ready, sessionOf(1, "a", failed, 0), sessionOf(0, "b", failed, 0)))
	checkRecover(t, changesLog(changes[:6]...), tableOf(sessionOf(0, "a", failed, 0), sessionOf(1, "a", failed, 0), sessionOf(0, "b", failed, 0)))
	checkRecover(t, changesLog(changes[:1]...), tableOf(sessionOf(0, "a", failed, 0)))
	for n := range len(changes) + 1 {
		checkRecover(t, changesLog(changes[:n]...), ruleRecover(changesLog(changes[:n]...)))
	}
}

func TestRecoverOfLogsThatAreCut(t *testing.T) {
	changes := someChanges()
	image := changesLog(changes...)
	want, n := impl.Table{}, 0
	for cut := range len(image) + 1 {
		for n < len(changes) && len(changesLog(changes[:n+1]...)) <= cut {
			n++
			want = ruleRecover(changesLog(changes[:n]...))
		}
		checkRecover(t, image[:cut], want)
	}
	if n != len(changes) {
		t.Fatalf("%d of %d changes", n, len(changes))
	}
}

func TestRecoverOfLogsThatAreTorn(t *testing.T) {
	changes := someChanges()
	image := changesLog(changes...)
	begin := 0
	for n := range changes {
		end := len(changesLog(changes[:n+1]...))
		want := ruleRecover(image[:begin])
		for mark := begin + 31; mark < end; mark += 32 {
			for _, b := range []byte{0, 'C', 'A' + 'B' - image[mark]} {
				checkRecover(t, setByte(image, mark, b), want)
			}
		}
		checkRecover(t, image[:begin]+zeros(32)+image[begin:], want)
		checkRecover(t, image[:begin]+"x"+image[begin:], want)
		begin = end
	}
}

// What stands behind a record that can't be taken is not taken either, though it could be applied.
func TestRecoverStopsAtWhatCannotBeApplied(t *testing.T) {
	changes := someChanges()
	behind := changesLog(openOf(3, "behind"), rowsOf(3, "behind", "r"), bareOf(impl.ChDone, 3, "behind"), bareOf(impl.ChClose, 0, "a"))
	for n := range len(changes) + 1 {
		image := changesLog(changes[:n]...)
		want := ruleRecover(image)
		for _, text := range []string{"", "junk", "3\n0\na\n", "03\n0\na", "1\n0\nnew\nq\n51", "4\n0\na\n201", "7\n0\na", "\n", "2\n4\na", impl.Record("3\n0\na")} {
			checkRecover(t, image+impl.Record(text), want)
			checkRecover(t, image+impl.Record(text)+behind, want)
			checkRecover(t, image+impl.Record(text)+changesLog(changes[n:]...)+behind, want)
		}
		none := bareOf(impl.ChDone, 3, "none")
		checkRecover(t, image+changesLog(none)+behind, want)
		checkRecover(t, image+changesLog(none)+changesLog(changes[n:]...)+behind, want)
	}
	whole := changesLog(changes...)
	want := ruleRecover(whole)
	for _, c := range []impl.Change{openOf(0, "a"), openOf(0, "b"), openOf(1, "a"), rowsOf(0, "a", "more"), rowsOf(0, "a"), rowsOf(1, "b"), bareOf(impl.ChDone, 0, "a"), bareOf(impl.ChFail, 2, "c"), cursorOf(0, "a", 5), cursorOf(0, "a", 200), cursorOf(0, "b", 0), rowsOf(0, "b", times(200, "r")...), bareOf(impl.ChClose, 2, "c")} {
		if _, code := ruleApply(ruleTable(changes), c); code == 0 {
			t.Fatalf("%s can be applied", tellChange(c))
		}
		checkRecover(t, whole+changesLog(c), want)
		checkRecover(t, whole+changesLog(c)+behind, want)
	}
}

// ruleTable is the table that changes make, as it is before what is StDrain becomes StFailed.
func ruleTable(changes []impl.Change) impl.Table {
	table := impl.Table{}
	for _, c := range changes {
		table, _ = ruleApply(table, c)
	}
	return table
}

func TestRecoverOfAFullTable(t *testing.T) {
	var changes []impl.Change
	for _, s := range manySessions(16, drain) {
		changes = append(changes, openOf(s.Client, s.Tag))
	}
	all := drainFailed(tableOf(manySessions(16, drain)...))
	image := changesLog(changes...)
	checkRecover(t, image, all)
	// While they are being read, all are live: what was StDrain fails only at the end.
	checkRecover(t, image+changesLog(openOf(3, "new"), bareOf(impl.ChClose, 0, "a")), all)
	ends := changesLog(bareOf(impl.ChClose, 2, "c"), bareOf(impl.ChFail, 1, "b"))
	left := slices.Delete(slices.Clone(all.Sessions), 1, 2)
	left[1].State = closed
	checkRecover(t, image+ends+changesLog(openOf(3, "new"), bareOf(impl.ChDone, 3, "new")), tableOf(append(slices.Clone(left), sessionOf(3, "new", done, 0))...))
	left = slices.Delete(slices.Clone(left), 1, 2)
	checkRecover(t, image+ends+changesLog(openOf(3, "new"), openOf(2, "new"), openOf(1, "new"), bareOf(impl.ChClose, 0, "a")), tableOf(append(left, sessionOf(3, "new", failed, 0), sessionOf(2, "new", failed, 0))...))
}

// A session that was taken out to make room is as if it had never been: its tag is opened anew, and nothing else can be done with it.
func TestRecoverOfSessionsThatMadeRoom(t *testing.T) {
	var changes []impl.Change
	for _, s := range manySessions(16, drain) {
		changes = append(changes, openOf(s.Client, s.Tag))
	}
	changes = append(changes, bareOf(impl.ChFail, 1, "b"), bareOf(impl.ChClose, 2, "c"), openOf(3, "new"))
	left := drainFailed(tableOf(manySessions(16, drain)...)).Sessions
	left = append(slices.Delete(left, 1, 2), sessionOf(3, "new", failed, 0))
	left[1].State = closed
	image := changesLog(changes...)
	checkRecover(t, image, tableOf(left...))
	for kind := impl.ChRows; kind <= impl.ChClose; kind++ {
		checkRecover(t, image+changesLog(bareOf(kind, 1, "b"), bareOf(impl.ChDone, 0, "a")), tableOf(left...))
	}
	again := append(slices.Delete(slices.Clone(left), 1, 2), sessionOf(1, "b", done, 1, "r"))
	image += changesLog(openOf(1, "b"), rowsOf(1, "b", "r"), bareOf(impl.ChDone, 1, "b"), cursorOf(1, "b", 1))
	checkRecover(t, image, tableOf(again...))
	checkRecover(t, image+changesLog(openOf(2, "c"), bareOf(impl.ChClose, 1, "b")), tableOf(again...))
}

// Promise 7, with logs whose tables are nearly always full.
func TestRecoverOfRandomLogsOfFullTables(t *testing.T) {
	r := rand.New(rand.NewSource(59))
	made := 0
	for range 300 {
		table, image := impl.Table{}, ""
		for range 300 {
			c := randomChange(r)
			if r.Intn(3) > 0 {
				c = openOf(c.Client, c.Tag)
			}
			next, code := ruleApply(table, c)
			if code != 0 {
				continue
			}
			if c.Kind == impl.ChOpen && len(table.Sessions) == 16 && len(next.Sessions) == 16 {
				made++
			}
			table, image = next, image+changesLog(c)
		}
		checkRecover(t, image, drainFailed(table))
		checkRecover(t, impl.Snapshot(impl.Recover(image)), drainFailed(table))
	}
	if made < 1000 {
		t.Fatalf("only %d sessions were taken out of full tables", made)
	}
}

func TestRecoverOfRandomLogs(t *testing.T) {
	r := rand.New(rand.NewSource(55))
	whole := 0
	for range 3000 {
		table := impl.Table{}
		image := ""
		for range r.Intn(60) {
			c := randomChange(r)
			next, code := ruleApply(table, c)
			if code != 0 && r.Intn(40) != 0 {
				continue
			}
			table = next
			image += changesLog(c)
		}
		want := ruleRecover(image)
		checkRecover(t, image, want)
		if sameTable(want, drainFailed(table)) {
			whole++
		}
		d := impl.Disk{Stable: image[:r.Intn(len(image)+1)], Now: image}
		crashed := impl.DiskCrash(d, randomPicks(r)).Now
		checkRecover(t, crashed, ruleRecover(crashed))
		// Promise 7: recovering twice is recovering once.
		for _, image := range []string{image, crashed} {
			once := impl.Recover(image)
			checkRecover(t, impl.Snapshot(once), once)
		}
	}
	if whole < 500 {
		t.Fatalf("only %d logs could be applied as a whole", whole)
	}
}

// A log of many small records behind a great table must not take the table's size for each of them.
func TestRecoverAtMaxDisk(t *testing.T) {
	want := greatTable()
	image := impl.Snapshot(want)
	last := &want.Sessions[15]
	last.Cursor = 7
	small := changesLog(cursorOf(last.Client, last.Tag, last.Cursor))
	image += strings.Repeat(small, (impl.MaxDisk-len(image))/len(small))
	if len(image) != impl.MaxDisk {
		t.Fatalf("%d bytes", len(image))
	}
	checkRecover(t, image, want)
	checkRecover(t, image+"\x00", impl.Table{})
	checkRecover(t, image+small, impl.Table{})
}

// greatTable is full, with as many and as long rows as there may be.
func greatTable() impl.Table {
	sessions := manySessions(16, done)
	for i := range sessions {
		sessions[i].Query, sessions[i].Rows, sessions[i].Cursor = longText[1:], times(200, longText[1:]), 200
	}
	return tableOf(sessions...)
}

// ruleSnapshot writes the records byte by byte.
func ruleSnapshot(t impl.Table) string {
	image := ""
	put := func(c impl.Change) {
		text := ruleEncodeChange(c)
		image += ruleRecord(text, len(text))
	}
	for _, s := range t.Sessions {
		put(impl.Change{Kind: 1, Client: s.Client, Tag: s.Tag, Query: s.Query, Page: s.Page})
		if len(s.Rows) != 0 {
			put(rowsOf(s.Client, s.Tag, s.Rows...))
		}
		if s.State != drain {
			put(bareOf([]int{2: 3, 3: 5, 4: 6}[s.State], s.Client, s.Tag))
		}
		if s.Cursor != 0 {
			put(cursorOf(s.Client, s.Tag, s.Cursor))
		}
	}
	return image
}

func checkSnapshot(t *testing.T, table impl.Table) {
	t.Helper()
	got := impl.Snapshot(table)
	if want := ruleSnapshot(table); got != want {
		t.Fatalf("Snapshot(%s): %s, want %s", tellTable(table), short(got), short(want))
	}
	// Promise 7: it comes back, with StDrain as StFailed; and once more it is the same.
	checkRecover(t, got, drainFailed(table))
	checkRecover(t, impl.Snapshot(impl.Recover(got)), drainFailed(table))
}

func TestSnapshotWritten(t *testing.T) {
	table := tableOf(
		sessionOf(0, "a", done, 2, "x", "", "z"), sessionOf(1, "b", drain, 0), sessionOf(0, "c", closed, 0), sessionOf(3, "d", failed, 0),
		sessionOf(1, "e", drain, 0, ""), sessionOf(1, "f", done, 0), sessionOf(1, "g", done, 0, "r"))
	want := impl.Record("1\n0\na\nfind a\n5") + impl.Record("2\n0\na\nx\n\nz") + impl.Record("3\n0\na") + impl.Record("4\n0\na\n2") +
		impl.Record("1\n1\nb\nfind b\n5") +
		impl.Record("1\n0\nc\nfind c\n5") + impl.Record("6\n0\nc") +
		impl.Record("1\n3\nd\nfind d\n5") + impl.Record("5\n3\nd") +
		impl.Record("1\n1\ne\nfind e\n5") + impl.Record("2\n1\ne\n") +
		impl.Record("1\n1\nf\nfind f\n5") + impl.Record("3\n1\nf") +
		impl.Record("1\n1\ng\nfind g\n5") + impl.Record("2\n1\ng\nr") + impl.Record("3\n1\ng")
	if got := impl.Snapshot(table); got != want {
		t.Errorf("Snapshot: %q, want %q", got, want)
	}
	checkSnapshot(t, table)
	checkSnapshot(t, impl.Table{})
}

func TestSnapshotOfEachState(t *testing.T) {
	for state := drain; state <= closed; state++ {
		for _, rows := range [][]string{nil, {}, {""}, {"r"}, times(200, ""), times(200, longText[1:])} {
			if state > done && len(rows) > 0 {
				continue
			}
			for _, cursor := range []int{0, 1, 199, 200} {
				if cursor == 0 || state == done && cursor <= len(rows) {
					s := sessionOf(2, "tag", state, cursor, rows...)
					checkSnapshot(t, tableOf(s))
					checkSnapshot(t, tableOf(sessionOf(1, "tag", closed, 0), s, sessionOf(2, "a", drain, 0, "r")))
				}
			}
		}
		checkSnapshot(t, tableOf(manySessions(16, state)...))
	}
}

func TestSnapshotOfTheGreatestTable(t *testing.T) {
	checkSnapshot(t, greatTable())
	if size := len(impl.Snapshot(greatTable())); size == 0 || size > impl.MaxDisk {
		t.Errorf("%d bytes", size)
	}
}

// Promise 7, with drawn tables.
func TestSnapshotOfRandomTables(t *testing.T) {
	r := rand.New(rand.NewSource(56))
	for range 2000 {
		checkSnapshot(t, randomTable(r))
	}
}

// roomyTable has entries behind the end of each of its lists.
func roomyTable(t impl.Table) impl.Table {
	for i, s := range t.Sessions {
		t.Sessions[i].Rows = roomy(s.Rows, "kept")
	}
	t.Sessions = roomy(t.Sessions, sessionOf(0, "kept", done, 0, "kept"))
	return t
}

func tellAll(t impl.Table, c impl.Change) string {
	text := fmt.Sprintf("%v %q", t.Sessions[:cap(t.Sessions)], c.Rows[:cap(c.Rows)])
	for _, s := range t.Sessions {
		text += fmt.Sprintf("%q", s.Rows[:cap(s.Rows)])
	}
	return text
}

func TestTablesAndChangesAreLeftAlone(t *testing.T) {
	r := rand.New(rand.NewSource(57))
	bad := badSessions()
	for i := range 3000 {
		table, c := randomTable(r), randomChange(r)
		if i%5 == 0 {
			table.Sessions = append(table.Sessions, bad[r.Intn(len(bad))])
		}
		table = roomyTable(table)
		c.Rows = roomy(c.Rows, "kept")
		before := tellAll(table, c)
		next, _ := impl.Apply(table, c)
		impl.EncodeChange(c)
		impl.Snapshot(table)
		for k := range next.Sessions {
			rows := next.Sessions[k].Rows
			_ = append(rows[:cap(rows)], "more")
			for l := range rows[:cap(rows)] {
				rows[:cap(rows)][l] = "written"
			}
			next.Sessions[k] = impl.Session{}
		}
		if after := tellAll(table, c); after != before {
			t.Fatalf("%s: changed from %s to %s", tellChange(c), brief(before), brief(after))
		}
	}
}

// tableSpans is the memory of each list of a table, up to its capacity.
func tableSpans(t impl.Table) []span {
	spans := []span{spanOf(t.Sessions)}
	for _, s := range t.Sessions {
		spans = append(spans, spanOf(s.Rows))
	}
	return spans
}

func TestTablesAreNewMemory(t *testing.T) {
	r := rand.New(rand.NewSource(58))
	for range 2000 {
		table, c := roomyTable(randomTable(r)), randomChange(r)
		c.Rows = roomy(c.Rows, "kept")
		first, _ := impl.Apply(table, c)
		second, _ := impl.Apply(table, c)
		image := impl.Snapshot(table)
		third, fourth := impl.Recover(image), impl.Recover(image)
		text := impl.EncodeChange(c)
		one, _ := impl.DecodeChange(text)
		two, _ := impl.DecodeChange(text)
		checkApart(t, slices.Concat(tableSpans(table), tableSpans(first), tableSpans(second), tableSpans(third), tableSpans(fourth), []span{spanOf(c.Rows), spanOf(one.Rows), spanOf(two.Rows)}))
	}
	// Rows that come in two parts stand in one list of their own.
	table := tableOf(sessionOf(0, "a", drain, 0))
	rows := roomy([]string{"x", "y"}, "kept")
	table, _ = impl.Apply(table, rowsOf(0, "a", rows...))
	again, _ := impl.Apply(table, rowsOf(0, "a", rows...))
	other, _ := impl.Apply(table, rowsOf(0, "a", "other"))
	rows[0] = "written"
	if !sameTable(again, tableOf(sessionOf(0, "a", drain, 0, "x", "y", "x", "y"))) || !sameTable(other, tableOf(sessionOf(0, "a", drain, 0, "x", "y", "other"))) {
		t.Errorf("%s, %s", tellTable(again), tellTable(other))
	}
}
