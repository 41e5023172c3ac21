package tests

import (
	"fmt"
	"math"
	"math/rand"
	"slices"
	"strings"
	"testing"
	"unsafe"

	"loop.example/s01639/impl"
)

const header = `MSH|^~\&`

const usualMarks = `|^~\&`

// rep, field and seg take lists as they are: a test may want one that is not in order.
func rep(comps ...string) impl.Rep {
	return impl.Rep{Comps: comps}
}

func field(reps ...impl.Rep) impl.Field {
	return impl.Field{Reps: reps}
}

// word is the commonest field, with one component.
func word(comp string) impl.Field {
	return field(rep(comp))
}

func seg(name string, fields ...impl.Field) impl.Segment {
	return impl.Segment{Name: name, Fields: fields}
}

func msg(segs ...impl.Segment) impl.Message {
	return impl.Message{Segs: segs}
}

// mshWith is a message of MSH alone, with these fields.
func mshWith(fields ...impl.Field) impl.Message {
	return msg(seg("MSH", fields...))
}

func times[T any](n int, one T) []T {
	return slices.Repeat([]T{one}, n)
}

// tellMessage is the same for an empty list and the nil list.
func tellMessage(m impl.Message) string {
	return fmt.Sprintf("%q", m)
}

func sameMessage(a, b impl.Message) bool {
	return tellMessage(a) == tellMessage(b)
}

func checkEncode(t *testing.T, m impl.Message, want string) {
	t.Helper()
	if got := impl.Encode(m); got != want {
		t.Errorf("Encode(%s): %s, want %s", short(tellMessage(m)), short(got), short(want))
	}
}

func checkParse(t *testing.T, s string, want impl.Message) {
	t.Helper()
	got, code := impl.Parse(s)
	if code != 0 || !sameMessage(got, want) {
		t.Errorf("Parse(%s): %s %d, want %s 0", short(s), tellMessage(got), code, tellMessage(want))
	}
}

func checkCode(t *testing.T, s string, want int) {
	t.Helper()
	got, code := impl.Parse(s)
	if code != want {
		t.Errorf("Parse(%s): code %d, want %d", short(s), code, want)
	}
	if code != 0 && got.Segs != nil {
		t.Errorf("Parse(%s): code %d beside %s", short(s), code, short(tellMessage(got)))
	}
}

func checkGet(t *testing.T, m impl.Message, name string, field, comp int, want string) {
	t.Helper()
	if got := impl.Get(m, name, field, comp); got != want {
		t.Errorf("%s-%d.%d is %q, want %q", name, field, comp, got, want)
	}
}

// ruleParse is Parse by the words of the document, on texts alone: it cuts
// short by trimming the text of a list, and reads escapes byte by byte.
func ruleParse(s string) (impl.Message, int) {
	none := impl.Message{}
	if len(s) < 1 || len(s) > impl.MaxBody {
		return none, 1
	}
	if strings.ContainsFunc(s, func(r rune) bool { return r != '\r' && (r < ' ' || r > '~') }) {
		return none, 2
	}
	if !ruleHeader(s) {
		return none, 3
	}
	marks := s[3:8]
	m := impl.Message{}
	for i, text := range strings.Split(strings.TrimSuffix(s, "\r"), "\r") {
		one, code := ruleSegment(i, text, marks)
		if code != 0 {
			return none, code
		}
		m.Segs = append(m.Segs, one)
	}
	return m, 0
}

func ruleHeader(s string) bool {
	if len(s) < 8 || s[:3] != "MSH" {
		return false
	}
	seen := "abcdefghijklmnopqrstuvwxyzABCDEFGHIJKLMNOPQRSTUVWXYZ0123456789\r"
	for _, b := range s[3:8] {
		if strings.ContainsRune(seen, b) {
			return false
		}
		seen += string(b)
	}
	return len(s) == 8 || s[8] == '\r' || s[8] == s[3]
}

func ruleName(name string) bool {
	capitals := "ABCDEFGHIJKLMNOPQRSTUVWXYZ"
	return len(name) == 3 && strings.Contains(capitals, name[:1]) && strings.Trim(name, capitals+"0123456789") == ""
}

func ruleSegment(i int, text, marks string) (impl.Segment, int) {
	none := impl.Segment{}
	size := 3
	if i == 0 {
		size = 8
	}
	if len(text) < size || !ruleName(text[:3]) || i > 0 && text[:3] == "MSH" || len(text) > size && text[size] != marks[0] {
		return none, 4
	}
	one := impl.Segment{Name: text[:3]}
	long := i >= impl.MaxSegs
	rest := strings.TrimRight(text[size:], marks[:3])
	for k, fieldText := range strings.Split(rest, marks[:1]) {
		if k == 0 {
			continue
		}
		f := impl.Field{}
		for _, repText := range splitFull(strings.TrimRight(fieldText, marks[1:3]), marks[2:3]) {
			r := impl.Rep{Comps: splitFull(strings.TrimRight(repText, marks[1:2]), marks[1:2])}
			long = long || len(r.Comps) > impl.MaxComps
			f.Reps = append(f.Reps, r)
		}
		long = long || len(f.Reps) > impl.MaxReps
		one.Fields = append(one.Fields, f)
	}
	if long || len(one.Fields) > impl.MaxFields {
		return none, 5
	}
	return one, ruleEscapes(one, marks)
}

// splitFull gives no piece for the empty text.
func splitFull(s, mark string) []string {
	if s == "" {
		return nil
	}
	return strings.Split(s, mark)
}

func ruleEscapes(one impl.Segment, marks string) int {
	for _, f := range one.Fields {
		for _, r := range f.Reps {
			for i := range r.Comps {
				text, ok := ruleComp(r.Comps[i], marks)
				if !ok {
					return 6
				}
				r.Comps[i] = text
			}
		}
	}
	return 0
}

func ruleComp(comp, marks string) (string, bool) {
	text := ""
	for comp != "" {
		if comp[0] != marks[3] {
			text += comp[:1]
			comp = comp[1:]
			continue
		}
		if len(comp) < 3 || comp[2] != marks[3] {
			return "", false
		}
		switch comp[1] {
		case 'F':
			text += marks[0:1]
		case 'S':
			text += marks[1:2]
		case 'R':
			text += marks[2:3]
		case 'E':
			text += marks[3:4]
		case 'T':
			text += marks[4:5]
		default:
			return "", false
		}
		comp = comp[3:]
	}
	return text, true
}

func checkRule(t *testing.T, s string) {
	t.Helper()
	want, wantCode := ruleParse(s)
	if wantCode != 0 {
		want = impl.Message{}
	}
	got, code := impl.Parse(s)
	if code != wantCode || !sameMessage(got, want) {
		t.Fatalf("Parse(%s): %s %d, want %s %d", short(s), short(tellMessage(got)), code, short(tellMessage(want)), wantCode)
	}
}

// eachText gives every text of at most size of these pieces.
func eachText(pieces []string, size int, do func(s string)) {
	last := []string{""}
	do("")
	for range size {
		next := []string{}
		for _, s := range last {
			for _, p := range pieces {
				do(s + p)
				next = append(next, s+p)
			}
		}
		last = next
	}
}

// randomComp is often made of the bytes that have a meaning somewhere.
func randomComp(r *rand.Rand) string {
	b := make([]byte, r.Intn(5))
	for i := range b {
		if r.Intn(2) == 0 {
			b[i] = `|^~\&FSTRE`[r.Intn(10)]
		} else {
			b[i] = byte(32 + r.Intn(95))
		}
	}
	return string(b)
}

func randomRep(r *rand.Rand) impl.Rep {
	one := impl.Rep{}
	for range r.Intn(4) {
		one.Comps = append(one.Comps, randomComp(r))
	}
	if len(one.Comps) > 0 {
		one.Comps[len(one.Comps)-1] += "z"
	}
	return one
}

func randomField(r *rand.Rand) impl.Field {
	one := impl.Field{}
	for range r.Intn(4) {
		one.Reps = append(one.Reps, randomRep(r))
	}
	if len(one.Reps) > 0 {
		one.Reps = append(one.Reps, rep("", "q"+randomComp(r)))
	}
	return one
}

func randomSegment(r *rand.Rand, name string) impl.Segment {
	one := impl.Segment{Name: name}
	for range r.Intn(4) {
		one.Fields = append(one.Fields, randomField(r))
	}
	if len(one.Fields) > 0 {
		one.Fields = append(one.Fields, word("w"+randomComp(r)))
	}
	return one
}

// randomMessage is always valid.
func randomMessage(r *rand.Rand) impl.Message {
	m := msg(randomSegment(r, "MSH"))
	for range r.Intn(4) {
		m.Segs = append(m.Segs, randomSegment(r, []string{"ZZ1", "QPD", "A00", "MSA"}[r.Intn(4)]))
	}
	return m
}

// randomMarks is any five different bytes that may be delimiters.
func randomMarks(r *rand.Rand) string {
	allowed := " !\"#$%&'()*+,-./:;<=>?@[\\]^_`{|}~"
	marks := ""
	for _, i := range r.Perm(len(allowed))[:5] {
		marks += allowed[i : i+1]
	}
	return marks
}

// writeComp escapes every delimiter, but parts only where bareParts is false.
func writeComp(comp, marks string, bareParts bool) string {
	text := ""
	for _, b := range comp {
		at := strings.IndexRune(marks, b)
		if at < 0 || at == 4 && bareParts {
			text += string(b)
		} else {
			text += marks[3:4] + "FSRET"[at:at+1] + marks[3:4]
		}
	}
	return text
}

// writeWith writes a message with any delimiters, with up to as many empty
// entries behind each list as empties says.
func writeWith(m impl.Message, marks string, bareParts bool, empties func() int) string {
	more := func(mark byte) string { return strings.Repeat(string(mark), empties()) }
	text := ""
	for _, s := range m.Segs {
		text += s.Name
		if s.Name == "MSH" {
			text += marks
		}
		for _, f := range s.Fields {
			text += marks[0:1]
			for i, r := range f.Reps {
				if i > 0 {
					text += marks[2:3]
				}
				for k, c := range r.Comps {
					if k > 0 {
						text += marks[1:2]
					}
					text += writeComp(c, marks, bareParts)
				}
				text += more(marks[1])
			}
			text += more(marks[2])
		}
		text += more(marks[0]) + "\r"
	}
	return text
}

func noEmpties() int {
	return 0
}

func TestEncodeWritesEachLevel(t *testing.T) {
	checkEncode(t, mshWith(), header+"\r")
	checkEncode(t, mshWith(word("a")), header+"|a\r")
	checkEncode(t, mshWith(field(), word("a")), header+"||a\r")
	checkEncode(t, mshWith(field(rep("a", "b"))), header+"|a^b\r")
	checkEncode(t, mshWith(field(rep("", "b"))), header+"|^b\r")
	checkEncode(t, mshWith(field(rep("a"), rep("b", "", "c"))), header+"|a~b^^c\r")
	checkEncode(t, mshWith(field(rep(), rep("b"))), header+"|~b\r")
	checkEncode(t, mshWith(field(rep("a"), rep(), rep("b"))), header+"|a~~b\r")
	checkEncode(t, msg(seg("MSH"), seg("ZZ1")), header+"\rZZ1\r")
	checkEncode(t, msg(seg("MSH"), seg("ZZ1", word("a")), seg("ZZ1", field(), field(), word("b"))), header+"\rZZ1|a\rZZ1|||b\r")
	checkEncode(t, msg(seg("MSH"), seg("AAA"), seg("ZZZ"), seg("A09"), seg("MSA")), header+"\rAAA\rZZZ\rA09\rMSA\r")
	checkEncode(t, mshWith(word(" azAZ09!~")), header+`| azAZ09!\R\`+"\r")
}

func TestEncodeEscapesEachDelimiter(t *testing.T) {
	for comp, want := range map[string]string{
		"|": `\F\`, "^": `\S\`, "&": `\T\`, "~": `\R\`, `\`: `\E\`,
		`|^&~\`: `\F\\S\\T\\R\\E\`, "a&b": `a\T\b`, `\F\`: `\E\F\E\`, "#$%@!": "#$%@!",
	} {
		checkEncode(t, mshWith(word(comp)), header+"|"+want+"\r")
		checkEncode(t, msg(seg("MSH"), seg("ZZ1", field(rep("a"), rep("", comp)))), header+"\rZZ1|a~^"+want+"\r")
	}
}

func TestEncodeOfWhatIsNotValid(t *testing.T) {
	checkEncode(t, msg(), "")
	for _, name := range []string{"", "Z", "ZZ", "ZZZZ", "zzz", "Zzz", "ZZz", "1ZZ", "Z Z", "Z-1", "ZZ|", "ZZ\r", "É1", "MSH", "@AA", "[AA", "A/A", "A:A"} {
		checkEncode(t, msg(seg("MSH"), seg(name)), "")
		checkEncode(t, msg(seg("MSH"), seg("ZZ1"), seg(name, word("a"))), "")
	}
	for _, name := range []string{"", "ZZ1", "MSA", "msh", "MSH|"} {
		checkEncode(t, msg(seg(name)), "")
		checkEncode(t, msg(seg(name), seg("MSH")), "")
	}
	for _, f := range []impl.Field{field(), field(rep()), field(rep("")), field(rep("a", "")), field(rep("a"), rep()), field(rep("a"), rep("")), field(rep("a", ""), rep("b")), field(rep(""), rep("b"))} {
		checkEncode(t, mshWith(f), "")
		checkEncode(t, msg(seg("MSH"), seg("ZZ1", word("a"), f)), "")
	}
	checkEncode(t, mshWith(field(rep("a", "")), word("b")), "")
	checkEncode(t, mshWith(field(rep("a"), rep()), word("b")), "")
	checkEncode(t, mshWith(field(rep()), word("b")), "")
	for b := range 256 {
		comp := "a" + string([]byte{byte(b)}) + "b"
		plain := b >= 32 && b <= 126
		if got := impl.Encode(msg(seg("MSH"), seg("ZZ1", field(rep("x", comp), rep("y"))))); (got != "") != plain {
			t.Errorf("byte %d in a component: %q", b, got)
		}
	}
}

func TestEncodeAtTheLimitsOfLists(t *testing.T) {
	head := seg("MSH")
	checkBoth := func(within, past impl.Message, text string) {
		t.Helper()
		checkEncode(t, within, text)
		checkEncode(t, past, "")
	}
	checkBoth(mshWith(times(30, word("a"))...), mshWith(times(31, word("a"))...), header+strings.Repeat("|a", 30)+"\r")
	checkBoth(msg(head, seg("ZZ1", times(30, word("a"))...)), msg(head, seg("ZZ1", times(31, word("a"))...)), header+"\rZZ1"+strings.Repeat("|a", 30)+"\r")
	checkBoth(mshWith(field(times(30, rep("a"))...)), mshWith(field(times(31, rep("a"))...)), header+"|a"+strings.Repeat("~a", 29)+"\r")
	checkBoth(mshWith(field(rep(times(20, "a")...))), mshWith(field(rep(times(21, "a")...))), header+"|a"+strings.Repeat("^a", 19)+"\r")
	checkBoth(msg(append(times(1, head), times(249, seg("ZZ1"))...)...), msg(append(times(1, head), times(250, seg("ZZ1"))...)...), header+strings.Repeat("\rZZ1", 249)+"\r")
	checkEncode(t, msg(append(times(1, head), times(100000, seg("ZZ1"))...)...), "")
	// A list that is too long is not cut short first.
	checkEncode(t, mshWith(times(31, field())...), "")
}

func TestEncodeAtTheLimitOfSize(t *testing.T) {
	sized := func(n int) impl.Message { return mshWith(word(strings.Repeat("a", n))) }
	room := impl.MaxBody - len(header) - len("|\r")
	checkEncode(t, sized(room), header+"|"+strings.Repeat("a", room)+"\r")
	checkEncode(t, sized(room+1), "")
	checkEncode(t, sized(impl.MaxBody+1), "")
	checkEncode(t, sized(3*impl.MaxBody), "")
	// An escape takes three bytes: 39990 is 3 * 13330.
	bars := strings.Repeat("|", 13330)
	checkEncode(t, mshWith(word(bars)), header+"|"+strings.Repeat(`\F\`, 13330)+"\r")
	checkEncode(t, mshWith(word(bars+"a")), "")
	// The size counts over all segments.
	half := strings.Repeat("b", 19990)
	checkEncode(t, msg(seg("MSH", word(half)), seg("ZZ1", word(half+"bbbbb"))), header+"|"+half+"\rZZ1|"+half+"bbbbb\r")
	checkEncode(t, msg(seg("MSH", word(half)), seg("ZZ1", word(half+"bbbbbb"))), "")
	checkEncode(t, msg(seg("MSH", word(half)), seg("ZZ1", word(half)), seg("ZZ2", word(half))), "")
	// One long text many times over.
	full := field(times(30, rep(times(20, fullBody)...))...)
	checkEncode(t, msg(seg("MSH"), seg("ZZ1", times(30, full)...)), "")
}

func TestParseEachCodeAlone(t *testing.T) {
	for s, code := range map[string]int{
		"": 1, header + "|" + strings.Repeat("x", impl.MaxBody): 1, strings.Repeat("\r", impl.MaxBody+1): 1,
		header + "|\n": 2, header + "|\x00": 2, header + "|\x1f": 2, header + "|\x7f": 2, header + "|\x80": 2, header + "|é": 2, header + "\r\n": 2, "\t" + header: 2,
		"MSH": 3, "M": 3, "\r": 3, `MSH|^~\`: 3, `MSH|^~\` + "\r": 3, `MSA|^~\&`: 3, `msh|^~\&`: 3, " " + header: 3, "\r" + header: 3, header + "&": 3, header + "a": 3, header + "^": 3, `MSH|^~\|`: 3, `MSH||~\&`: 3, `MSH|^^\&`: 3, `MSH|^~~&`: 3, `MSH|^~\\`: 3,
		header + "\r\r": 4, header + "\r\rZZ1": 4, header + "\rZ": 4, header + "\rZZ": 4, header + "\rZZ1x": 4, header + "\rZZ1^": 4, header + "\rZZZ1": 4, header + "\rzZ1": 4, header + "\rZz1": 4, header + "\r1ZZ": 4, header + "\rZ-Z": 4, header + "\rZZ|a": 4, header + "\r|a": 4, header + "\r" + header: 4, header + "\rMSH": 4, header + "\rMSH|a": 4, header + "\r ZZ1": 4, header + "\rZZ1\r\r": 4,
		header + strings.Repeat("\rZZ1", 250): 5, header + strings.Repeat("|a", 31): 5,
		header + `|\`: 6, header + `|\\`: 6, header + `|\F`: 6, header + `|\H\`: 6, header + `|\f\`: 6, header + `|\FF\`: 6, header + `|\FS\`: 6, header + `|\F\\`: 6, header + `|a\F\b\c`: 6, header + `|\ F\`: 6, header + `|\.br\`: 6, header + `|\^F\`: 6, header + `|\|F\`: 6, header + `|\~F\`: 6, header + `|\&\`: 6, header + "\rZZ1|\\\rZZ1|F\\": 6, header + `|a^b~c^\X\|d`: 6,
	} {
		checkCode(t, s, code)
	}
	checkCode(t, header, 0)
	checkCode(t, header+"\r", 0)
	checkCode(t, header+"|", 0)
}

func TestParseTakesTheFirstCode(t *testing.T) {
	long := strings.Repeat("|a", 31)
	segs := strings.Repeat("\rZZ1", 249)
	big := strings.Repeat("x", impl.MaxBody)
	for s, code := range map[string]int{
		// 1 ahead of all others
		big + "\n": 1, "MSA" + big: 1, header + "\rzz" + big: 1, header + long + big: 1, header + `|\` + big: 1,
		// 2 ahead of 3 to 6
		"\n": 2, "MSA\n": 2, header + "\rzz\n": 2, header + long + "\n": 2, header + "|\\\n": 2, header + "\rzz|\\" + long + "\x7f": 2,
		// 3 ahead of 4 to 6
		"MSA" + usualMarks + "\rzz": 3, "MSH||~\\&" + long: 3, "MSH||~\\&|\\": 3, header + "x\rzz" + long + "\\": 3,
		// 4 ahead of 5 and 6 in one segment
		header + "\rzz1" + long: 4, header + "\rMSH" + long: 4, header + segs + "\rzz1": 4, header + segs + "\r\r": 4, header + segs + "\rMSH": 4, header + segs + "\rZZ1x": 4, header + "\rzz1|\\": 4, header + "\rZZ1^\\": 4,
		// 5 ahead of 6 in one segment
		header + `|\` + long: 5, header + long + `|\`: 5, header + strings.Repeat(`|\`, 31): 5, header + segs + "\rZZ1|\\": 5, header + "|a" + strings.Repeat("^\\X\\", 20): 5,
		// what is wrong in one segment is ahead of all in the next ones
		header + "|\\\rzz": 6, header + "|\\\rZZ1" + long: 6, header + "\rZZ1|\\" + segs: 6, header + long + "\rzz": 5, header + long + "\rZZ1|\\": 5, header + "\rzz\rZZ1|\\": 4, header + "\rzz" + long + "\rZZ1" + long: 4, header + "\rZZ1|\\H\\\r\rZZ1": 6, header + segs + "\rZZ1\rzz": 5, header + "\rzz1" + segs: 4,
	} {
		checkCode(t, s, code)
	}
}

func TestParseWithOtherDelimiters(t *testing.T) {
	checkParse(t, "MSH#$%@!#a#b$c%d", mshWith(word("a"), field(rep("b", "c"), rep("d"))))
	checkParse(t, "MSH#$%@!\rZZ1#|^~\\&\r", msg(seg("MSH"), seg("ZZ1", word(`|^~\&`))))
	checkParse(t, "MSH#$%@!#@F@@S@@T@@R@@E@", mshWith(word("#$!%@")))
	checkParse(t, "MSH|^~\\&|\\F\\\\S\\\\T\\\\R\\\\E\\", mshWith(word(`|^&~\`)))
	checkParse(t, "MSH#$%@!#x!y$!%!", mshWith(field(rep("x!y", "!"), rep("!"))))
	checkParse(t, "MSH|^~\\&|x&y^&~&", mshWith(field(rep("x&y", "&"), rep("&"))))
	// The usual delimiters, each with another task.
	checkParse(t, "MSH&|^~\\&a|b^c&~F~~S~~R~~E~~T~\\", mshWith(field(rep("a", "b"), rep("c")), word(`&|^~\\`)))
	// A space is a delimiter like any other.
	checkParse(t, "MSH ^~\\& a b\rZZ1  c d", msg(seg("MSH", word("a"), word("b")), seg("ZZ1", field(), word("c"), word("d"))))
	checkCode(t, "MSH|^~\\& a", 3)
}

func TestParseCutsListsShortAtTheirEnds(t *testing.T) {
	for s, want := range map[string]impl.Message{
		header + "|":                      mshWith(),
		header + "|||":                    mshWith(),
		header + "|~^~|^^|":               mshWith(),
		header + "|a|":                    mshWith(word("a")),
		header + "|a^|":                   mshWith(word("a")),
		header + "|a~":                    mshWith(word("a")),
		header + "|a^^~^~":                mshWith(word("a")),
		header + "|a^^~b^":                mshWith(field(rep("a"), rep("b"))),
		header + "|^a":                    mshWith(field(rep("", "a"))),
		header + "|^^a^^b^^":              mshWith(field(rep("", "", "a", "", "b"))),
		header + "|~a":                    mshWith(field(rep(), rep("a"))),
		header + "|^~^~a":                 mshWith(field(rep(), rep(), rep("a"))),
		header + "|a~~b~^~":               mshWith(field(rep("a"), rep(), rep("b"))),
		header + "||a":                    mshWith(field(), word("a")),
		header + "|^~|a|~|^|b|":           mshWith(field(), word("a"), field(), field(), word("b")),
		header + "| ":                     mshWith(word(" ")),
		header + "|\r":                    mshWith(),
		header + "\rZZ1":                  msg(seg("MSH"), seg("ZZ1")),
		header + "\rZZ1\r":                msg(seg("MSH"), seg("ZZ1")),
		header + "\rZZ1|\r":               msg(seg("MSH"), seg("ZZ1")),
		header + "|a|\rZZ1||b^|~\rZZ1||~": msg(seg("MSH", word("a")), seg("ZZ1", field(), word("b")), seg("ZZ1")),
	} {
		checkParse(t, s, want)
	}
}

func TestParseAtTheLimits(t *testing.T) {
	many := strings.Repeat
	for _, start := range []string{header, header + "\rZZ1"} {
		checkCode(t, start+many("|a", 30), 0)
		checkCode(t, start+many("|a", 31), 5)
		checkCode(t, start+many("|", 29)+"|a|||||^~", 0)
		checkCode(t, start+many("|", 30)+"|a", 5)
		checkCode(t, start+many("|", 1000), 0)
		checkCode(t, start+"|"+many("a~", 29)+"a", 0)
		checkCode(t, start+"|"+many("a~", 30), 0)
		checkCode(t, start+"|"+many("a~", 30)+"a", 5)
		checkCode(t, start+"|"+many("~", 29)+"a~~~^", 0)
		checkCode(t, start+"|"+many("~", 30)+"a", 5)
		checkCode(t, start+"|"+many("~", 1000), 0)
		checkCode(t, start+"|"+many("a^", 19)+"a", 0)
		checkCode(t, start+"|"+many("a^", 20), 0)
		checkCode(t, start+"|"+many("a^", 20)+"a", 5)
		checkCode(t, start+"|"+many("^", 19)+"a^^^", 0)
		checkCode(t, start+"|"+many("^", 20)+"a", 5)
		checkCode(t, start+"|"+many("^", 20)+"a~b|c", 5)
		checkCode(t, start+"|"+many("^", 1000)+"~b"+many("^", 1000), 0)
	}
	checkCode(t, header+many("\rZZ1", 249), 0)
	checkCode(t, header+many("\rZZ1", 249)+"\r", 0)
	checkCode(t, header+many("\rZZ1", 250), 5)
	checkCode(t, header+many("\rZZ1", 1000), 5)
	room := impl.MaxBody - len(header) - 1
	checkParse(t, header+"|"+many("a", room), mshWith(word(many("a", room))))
	checkParse(t, header+"|"+many("a", room-1)+"\r", mshWith(word(many("a", room-1))))
	checkCode(t, header+"|"+many("a", room+1), 1)
	checkCode(t, header+"|"+many("a", room)+"\r", 1)
	checkCode(t, header+many("|", impl.MaxBody-len(header)), 0)
	checkCode(t, header+many("|", impl.MaxBody-len(header)+1), 1)
}

func TestParseFollowsTheRules(t *testing.T) {
	eachText([]string{"|", "^", "~", `\`, "&", "F", `\F\`, "\r", "\rZZ1"}, 5, func(s string) { checkRule(t, header+s) })
	eachText([]string{"|", "^", `\`, "a", "M", "S", "H", "\r"}, 4, func(s string) {
		checkRule(t, s)
		checkRule(t, "MSH"+s)
		checkRule(t, header+"\r"+s)
	})
	start := header + "|a\rZZ1|b"
	for place := range len(start) {
		for b := range 256 {
			checkRule(t, start[:place]+string([]byte{byte(b)})+start[place+1:])
			checkRule(t, start[:place]+string([]byte{byte(b)})+start[place:])
		}
		checkRule(t, start[:place])
		checkRule(t, start[:place]+start[place+1:])
	}
	// Each pair of bytes that may or may not stand together as delimiters.
	for a := 31; a < 128; a++ {
		for b := 31; b < 128; b++ {
			checkRule(t, "MSH|^~"+string([]byte{byte(a), byte(b)})+"|x")
			checkRule(t, "MSH"+string([]byte{byte(a), byte(b)})+"~\\&"+string([]byte{byte(a)})+"x")
		}
	}
}

func TestParseOfHarmedTexts(t *testing.T) {
	r := rand.New(rand.NewSource(2))
	for range 20000 {
		marks := randomMarks(r)
		text := []byte(writeWith(randomMessage(r), marks, true, func() int { return r.Intn(2) }))
		for range 1 + r.Intn(2) {
			from, to := r.Intn(len(text)), r.Intn(len(text))
			switch r.Intn(3) {
			case 0:
				text[to] = text[from]
			case 1:
				text = slices.Insert(text, to, text[from])
			case 2:
				text[to] = marks[r.Intn(5)]
			}
		}
		checkRule(t, string(text))
	}
}

// Promise 2.
func TestParseOfEncode(t *testing.T) {
	r := rand.New(rand.NewSource(3))
	for range 5000 {
		m := randomMessage(r)
		text := impl.Encode(m)
		if want := writeWith(m, usualMarks, false, noEmpties); text != want {
			t.Fatalf("Encode(%s): %q, want %q", tellMessage(m), text, want)
		}
		checkParse(t, text, m)
	}
	full := msg(seg("MSH", times(30, word("a"))...), seg("ZZ1", field(times(30, rep("b"))...), field(rep(times(20, "&")...))))
	for len(full.Segs) < impl.MaxSegs {
		full.Segs = append(full.Segs, seg("RDT", word(strings.Repeat("c", 120))))
	}
	checkParse(t, impl.Encode(full), full)
}

// Promise 2: where the code is 0 and the size allows it, Encode takes the message.
func TestParseGivesValidMessages(t *testing.T) {
	eachText([]string{"|", "^", "~", `\E\`, "&", "\r", "\rZZ1"}, 5, func(s string) {
		m, code := impl.Parse(header + s)
		if code != 0 {
			return
		}
		again, code := impl.Parse(impl.Encode(m))
		if code != 0 || !sameMessage(again, m) {
			t.Fatalf("Parse(%q) is %s, and through Encode %s %d", header+s, tellMessage(m), tellMessage(again), code)
		}
	})
	// Valid but for its size: the delimiter of parts takes one byte in the text and three in the encoding.
	m, code := impl.Parse(header + "|" + strings.Repeat("&", 20000))
	if code != 0 || impl.Encode(m) != "" {
		t.Errorf("20000 delimiters of parts: code %d, encoding of %d bytes", code, len(impl.Encode(m)))
	}
}

// Promise 3.
func TestParseWithAnyDelimiters(t *testing.T) {
	r := rand.New(rand.NewSource(4))
	for i := range 10000 {
		m, marks := randomMessage(r), randomMarks(r)
		empties := noEmpties
		if i%2 == 1 {
			empties = func() int { return r.Intn(3) }
		}
		text := writeWith(m, marks, i%3 == 0, empties)
		checkParse(t, text, m)
		if !strings.HasSuffix(text, "\r\r") {
			checkParse(t, strings.TrimSuffix(text, "\r"), m)
		}
		if t.Failed() {
			return
		}
	}
}

func TestGet(t *testing.T) {
	m := msg(
		seg("MSH", word("app"), field(), field(rep("a", "", "c"), rep("d")), field(rep(), rep("e"))),
		seg("ZZ1"),
		seg("RDT", word("x"), field(rep("y", "z"))),
		seg("ZZ1", word("late")),
		seg("RDT", word("second"), field(), word("third")),
	)
	checkGet(t, m, "MSH", 3, 1, "app")
	checkGet(t, m, "MSH", 5, 1, "a")
	checkGet(t, m, "MSH", 5, 3, "c")
	checkGet(t, m, "RDT", 1, 1, "x")
	checkGet(t, m, "RDT", 2, 1, "y")
	checkGet(t, m, "RDT", 2, 2, "z")
	for _, place := range []struct {
		name        string
		field, comp int
	}{
		{"MSH", 1, 1}, {"MSH", 2, 1}, {"MSH", 0, 1}, {"MSH", -1, 1}, {"MSH", 4, 1}, {"MSH", 7, 1}, {"MSH", 6, 1},
		{"MSH", 3, 0}, {"MSH", 3, -1}, {"MSH", 3, 2}, {"MSH", 5, 2}, {"MSH", 5, 4},
		{"MSH", math.MinInt, 1}, {"MSH", math.MinInt + 2, 1}, {"MSH", math.MaxInt, 1}, {"MSH", 3, math.MinInt}, {"MSH", 3, math.MaxInt},
		{"RDT", 0, 1}, {"RDT", -1, 1}, {"RDT", 3, 1}, {"RDT", 1, 0}, {"RDT", 1, 2}, {"RDT", 2, 3}, {"RDT", math.MinInt, 1}, {"RDT", math.MaxInt, 1},
		{"ZZ1", 1, 1}, {"QQQ", 1, 1}, {"", 1, 1}, {"msh", 3, 1}, {"MS", 3, 1},
	} {
		checkGet(t, m, place.name, place.field, place.comp, "")
	}
}

func TestGetOfWhatIsNotValid(t *testing.T) {
	checkGet(t, msg(), "MSH", 3, 1, "")
	checkGet(t, msg(), "", 1, 1, "")
	m := msg(seg("", word("no name")), seg("zz", field(rep("a\n", ""))), seg("MSH", word("late")), seg("MSH", word("later"), word("b")), seg("", word("b")))
	checkGet(t, m, "", 1, 1, "no name")
	checkGet(t, m, "zz", 1, 1, "a\n")
	checkGet(t, m, "zz", 1, 2, "")
	checkGet(t, m, "MSH", 3, 1, "late")
	checkGet(t, m, "MSH", 4, 1, "")
	checkGet(t, m, "MSH", 1, 1, "")
	far := append(times(40, field()), field(rep(append(times(25, ""), "deep")...)))
	checkGet(t, msg(append(times(300, seg("ZZ1")), seg("ZZ2", far...))...), "ZZ2", 41, 26, "deep")
}

// roomy gives a list with entries behind its end, which nobody may write to.
func roomy[T any](list []T, behind T) []T {
	return append(slices.Clone(list), behind, behind)[:len(list)]
}

func TestMessagesAreLeftAlone(t *testing.T) {
	comps := roomy([]string{"a", "|"}, "kept")
	reps := roomy([]impl.Rep{{}, {Comps: comps}}, rep("kept"))
	fields := roomy([]impl.Field{{}, {Reps: reps}}, word("kept"))
	m := impl.Message{Segs: roomy([]impl.Segment{{Name: "MSH", Fields: fields}, {Name: "ZZ1"}}, seg("KEP"))}
	bad := impl.Message{Segs: roomy([]impl.Segment{{Name: "MSH", Fields: []impl.Field{{Reps: []impl.Rep{{Comps: []string{"a", ""}}}}}}}, seg("KEP"))}
	tell := func() string {
		return fmt.Sprintf("%q %q %q %q %q", comps[:4], reps[:4], fields[:4], m.Segs[:4], bad.Segs[:3])
	}
	before := tell()
	impl.Encode(m)
	impl.Encode(bad)
	for _, number := range []int{-1, 0, 1, 3, 4, 5} {
		impl.Get(m, "MSH", number, number)
		impl.Get(bad, "ZZ1", number, number)
	}
	if after := tell(); after != before {
		t.Errorf("changed from %s to %s", before, after)
	}
}

type span struct {
	from, to uintptr
}

func spanOf[T any](list []T) span {
	var one T
	from := uintptr(unsafe.Pointer(unsafe.SliceData(list)))
	return span{from, from + uintptr(cap(list))*unsafe.Sizeof(one)}
}

// messageSpans is the memory of each list of a message, up to its capacity.
func messageSpans(m impl.Message) []span {
	spans := []span{spanOf(m.Segs)}
	for _, s := range m.Segs {
		spans = append(spans, spanOf(s.Fields))
		for _, f := range s.Fields {
			spans = append(spans, spanOf(f.Reps))
			for _, r := range f.Reps {
				spans = append(spans, spanOf(r.Comps))
			}
		}
	}
	return spans
}

// checkApart asks that no two lists share memory.
func checkApart(t *testing.T, spans []span) {
	t.Helper()
	spans = slices.DeleteFunc(slices.Clone(spans), func(s span) bool { return s.from == s.to })
	slices.SortFunc(spans, func(a, b span) int {
		if a.from < b.from {
			return -1
		}
		return 1
	})
	for i := 1; i < len(spans); i++ {
		if spans[i].from < spans[i-1].to {
			t.Fatalf("two lists share memory")
		}
	}
}

func TestParsedListsAreApart(t *testing.T) {
	text := header + "|a^b~c^^|d|~^|e~~f^g^^|\rZZ1|a^b~c|||d|e\rZZ1|a^b~c\rZZ2|||"
	first, _ := impl.Parse(text)
	second, _ := impl.Parse(text)
	checkApart(t, append(messageSpans(first), messageSpans(second)...))
}
