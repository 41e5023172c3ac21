package tests

import (
	"fmt"
	"math"
	"math/rand"
	"regexp"
	"slices"
	"strconv"
	"strings"
	"testing"

	"loop.example/s01639/impl"
)

// asked is what ReadRequest looks at, each as the text that stands in the message.
type asked struct {
	kind, control, version    string
	tag, query, pointer, page string
	cancelTag                 string
}

var goodNew = asked{kind: "QBP", control: "c1", version: "2.5.1", tag: "t1", query: "find me", page: "7"}
var goodNext = asked{kind: "QBP", control: "c1", version: "2.5.1", tag: "t1", query: "find me", pointer: "20"}
var goodCancel = asked{kind: "QCN", control: "c1", version: "2.5.1", cancelTag: "t1"}

// mshOf has the fields 9, 10 and 12, and takes them as they are.
func mshOf(kind impl.Field, control, version string) impl.Segment {
	return seg("MSH", field(), field(), field(), field(), field(), field(), kind, word(control), field(), word(version))
}

// message has every segment, some of them with texts that are empty or not plain: ReadRequest takes any message.
func (a asked) message() impl.Message {
	return msg(
		mshOf(field(rep(a.kind, "any")), a.control, a.version),
		seg("QPD", word("any"), word(a.tag), word(a.query)),
		seg("RCP", field(), word(a.page)),
		seg("DSC", word(a.pointer)),
		seg("QID", word(a.cancelTag)),
	)
}

func ruleText(s string, least, most int) bool {
	return least <= len(s) && len(s) <= most && strings.Trim(s, plainBytes) == ""
}

const plainBytes = " !\"#$%&'()*+,-./0123456789:;<=>?@ABCDEFGHIJKLMNOPQRSTUVWXYZ[\\]^_`abcdefghijklmnopqrstuvwxyz{|}~"

// request is ReadRequest by the words of the document: the first code that applies.
func (a asked) request() (impl.Request, int) {
	page := slices.Index(pageTexts(), a.page) + 1
	if a.page == "" {
		page = 10
	}
	bare := a.kind == "QBP" && a.pointer == ""
	r := impl.Request{}
	if ruleText(a.control, 1, 20) {
		r.Control = a.control
	}
	for _, rule := range []struct {
		applies bool
		code    int
	}{
		{a.kind != "QBP" && a.kind != "QCN", 200},
		{r.Control == "", 101},
		{a.version != "2.5.1", 203},
		{a.kind == "QBP" && !ruleText(a.tag, 1, 16), 101},
		{a.kind == "QBP" && !ruleText(a.query, 0, 200), 102},
		{a.kind == "QBP" && !ruleText(a.pointer, 0, 200), 102},
		{bare && page == 0, 102},
		{a.kind == "QCN" && !ruleText(a.cancelTag, 1, 16), 101},
	} {
		if rule.applies {
			return r, rule.code
		}
	}
	switch {
	case a.kind == "QCN":
		r.Kind, r.Tag = 3, a.cancelTag
	case bare:
		r.Kind, r.Tag, r.Query, r.Page = 1, a.tag, a.query, page
	default:
		r.Kind, r.Tag, r.Query, r.Pointer = 2, a.tag, a.query, a.pointer
	}
	return r, 0
}

func pageTexts() []string {
	var texts []string
	for n := 1; n <= 50; n++ {
		texts = append(texts, fmt.Sprint(n))
	}
	return texts
}

// brief tells more than short does, as messages begin alike.
func brief(s string) string {
	return fmt.Sprintf("%.1000s", s)
}

func tellRequest(r impl.Request) string {
	return brief(fmt.Sprintf("%+v", r))
}

func checkRequest(t *testing.T, m impl.Message, want impl.Request, code int) {
	t.Helper()
	got, gotCode := impl.ReadRequest(m)
	if got != want || gotCode != code {
		t.Errorf("ReadRequest(%s): %s %d, want %s %d", brief(tellMessage(m)), tellRequest(got), gotCode, tellRequest(want), code)
	}
}

func checkAsked(t *testing.T, a asked, code int) {
	t.Helper()
	want, ruleCode := a.request()
	if ruleCode != code {
		t.Errorf("the rule gives code %d for %+v, want %d", ruleCode, a, code)
	}
	checkRequest(t, a.message(), want, code)
}

// with gives a copy in which one thing is changed.
func (a asked) with(change func(*asked)) asked {
	change(&a)
	return a
}

func TestReadRequestOfEachKind(t *testing.T) {
	checkAsked(t, goodNew, 0)
	checkAsked(t, goodNext, 0)
	checkAsked(t, goodCancel, 0)
	checkRequest(t, goodNew.message(), impl.Request{Kind: impl.KindNew, Control: "c1", Tag: "t1", Query: "find me", Page: 7}, 0)
	checkRequest(t, goodNext.message(), impl.Request{Kind: impl.KindNext, Control: "c1", Tag: "t1", Query: "find me", Pointer: "20"}, 0)
	checkRequest(t, goodCancel.message(), impl.Request{Kind: impl.KindCancel, Control: "c1", Tag: "t1"}, 0)
	// What the kind does not name is not looked at, be it good or bad.
	for _, page := range []string{"", "7", "0", "x"} {
		checkRequest(t, goodNext.with(func(a *asked) { a.page = page }).message(), impl.Request{Kind: impl.KindNext, Control: "c1", Tag: "t1", Query: "find me", Pointer: "20"}, 0)
	}
	other := asked{tag: "other", query: "bad\n", pointer: "bad\n", page: "x"}
	other.kind, other.control, other.version, other.cancelTag = "QCN", "c1", "2.5.1", "t1"
	checkRequest(t, other.message(), impl.Request{Kind: impl.KindCancel, Control: "c1", Tag: "t1"}, 0)
	checkRequest(t, goodNew.with(func(a *asked) { a.cancelTag = "bad\n" }).message(), impl.Request{Kind: impl.KindNew, Control: "c1", Tag: "t1", Query: "find me", Page: 7}, 0)
	// No segments but those that are asked for.
	checkRequest(t, msg(mshOf(word("QBP"), "c", "2.5.1"), seg("QPD", field(), word("t"))), impl.Request{Kind: impl.KindNew, Control: "c", Tag: "t", Page: 10}, 0)
	checkRequest(t, msg(mshOf(word("QCN"), "c", "2.5.1"), seg("QID", word("t"))), impl.Request{Kind: impl.KindCancel, Control: "c", Tag: "t"}, 0)
}

var longText = strings.Repeat("q", 201)

// badThings are the reasons for each code in the order of the document, each alone in a message that is good otherwise.
var badThings = []struct {
	code   int
	kinds  string
	change func(*asked)
}{
	{impl.ErrMessage, "new next cancel", func(a *asked) { a.kind = "ADT" }},
	{impl.ErrMissing, "new next cancel", func(a *asked) { a.control = "" }},
	{impl.ErrVersion, "new next cancel", func(a *asked) { a.version = "2.5" }},
	{impl.ErrMissing, "new next", func(a *asked) { a.tag = "" }},
	{impl.ErrType, "new next", func(a *asked) { a.query = longText }},
	{impl.ErrType, "next", func(a *asked) { a.pointer = longText }},
	{impl.ErrType, "new", func(a *asked) { a.page = "0" }},
	{impl.ErrMissing, "cancel", func(a *asked) { a.cancelTag = "" }},
}

func TestReadRequestTakesTheFirstCode(t *testing.T) {
	for kind, good := range map[string]asked{"new": goodNew, "next": goodNext, "cancel": goodCancel} {
		for i, first := range badThings {
			if !slices.Contains(strings.Fields(first.kinds), kind) {
				continue
			}
			bad := good.with(first.change)
			checkAsked(t, bad, first.code)
			for _, second := range badThings[i+1:] {
				if slices.Contains(strings.Fields(second.kinds), kind) {
					checkAsked(t, bad.with(second.change), first.code)
				}
			}
		}
	}
	all := goodNew
	for _, thing := range badThings {
		all = all.with(thing.change)
	}
	checkAsked(t, all, impl.ErrMessage)
}

func TestReadRequestTellsTheControlBesideACode(t *testing.T) {
	for kind, good := range map[string]asked{"new": goodNew, "next": goodNext, "cancel": goodCancel} {
		for _, thing := range badThings {
			if !slices.Contains(strings.Fields(thing.kinds), kind) {
				continue
			}
			for control, told := range map[string]string{"c": "c", strings.Repeat("c", 20): strings.Repeat("c", 20), strings.Repeat("c", 21): "", "c\n": "", "\x7f": "", "é": "", " ": " ", "~": "~", "": ""} {
				bad := good.with(thing.change)
				if bad.control == "" {
					continue
				}
				bad.control = control
				got, code := impl.ReadRequest(bad.message())
				if want := (impl.Request{Control: told}); code == 0 || got != want {
					t.Errorf("%+v: %+v %d, want %+v", bad, got, code, want)
				}
			}
		}
	}
}

func TestReadRequestOfEveryMixture(t *testing.T) {
	for _, kind := range []string{"QBP", "QCN", "", "RSP", "qbp", "QBP ", "QCNX"} {
		for _, control := range []string{"c", strings.Repeat("c", 20), strings.Repeat("c", 21), "", "\n"} {
			for _, version := range []string{"2.5.1", "2.5", "", "2.5.10", " 2.5.1"} {
				for _, tag := range []string{"t", strings.Repeat("t", 16), strings.Repeat("t", 17), "", "t\x1f"} {
					for _, query := range []string{"", "q", strings.Repeat("q", 200), longText, "\x7f"} {
						for _, pointer := range []string{"", "p", strings.Repeat("p", 200), strings.Repeat("p", 201), "\r"} {
							for _, page := range []string{"", "1", "50", "51", "0", "x"} {
								a := asked{kind: kind, control: control, version: version, tag: tag, query: query, pointer: pointer, page: page, cancelTag: tag}
								want, code := a.request()
								if got, gotCode := impl.ReadRequest(a.message()); got != want || gotCode != code {
									t.Fatalf("%+v: %+v %d, want %+v %d", a, got, gotCode, want, code)
								}
							}
						}
					}
				}
			}
		}
	}
}

func TestReadRequestAtEachSize(t *testing.T) {
	for size := range 210 {
		text := strings.Repeat("x", size)
		tagCode, controlCode, textCode := 0, 0, 0
		if size == 0 || size > 16 {
			tagCode = 101
		}
		if size == 0 || size > 20 {
			controlCode = 101
		}
		if size > 200 {
			textCode = 102
		}
		checkAsked(t, goodNew.with(func(a *asked) { a.tag = text }), tagCode)
		checkAsked(t, goodNext.with(func(a *asked) { a.tag = text }), tagCode)
		checkAsked(t, goodCancel.with(func(a *asked) { a.cancelTag = text }), tagCode)
		for _, good := range []asked{goodNew, goodNext, goodCancel} {
			checkAsked(t, good.with(func(a *asked) { a.control = text }), controlCode)
		}
		checkAsked(t, goodNew.with(func(a *asked) { a.query = text }), textCode)
		checkAsked(t, goodNext.with(func(a *asked) { a.query = text }), textCode)
		checkAsked(t, goodNext.with(func(a *asked) { a.pointer = text }), textCode)
	}
}

func TestReadRequestOfEachByte(t *testing.T) {
	for b := range 256 {
		text := "x" + string([]byte{byte(b)})
		missing, wrong := 0, 0
		if b < 32 || b > 126 {
			missing, wrong = 101, 102
		}
		checkAsked(t, goodNew.with(func(a *asked) { a.control = text }), missing)
		checkAsked(t, goodNew.with(func(a *asked) { a.tag = text }), missing)
		checkAsked(t, goodNext.with(func(a *asked) { a.tag = text }), missing)
		checkAsked(t, goodCancel.with(func(a *asked) { a.cancelTag = text }), missing)
		checkAsked(t, goodNew.with(func(a *asked) { a.query = text }), wrong)
		checkAsked(t, goodNext.with(func(a *asked) { a.query = text }), wrong)
		checkAsked(t, goodNext.with(func(a *asked) { a.pointer = text }), wrong)
		checkAsked(t, goodNew.with(func(a *asked) { a.page = text }), 102)
	}
}

func TestPageSizes(t *testing.T) {
	page := func(text string) asked { return goodNew.with(func(a *asked) { a.page = text }) }
	for n := 1; n <= impl.MaxPage; n++ {
		checkRequest(t, page(strconv.Itoa(n)).message(), impl.Request{Kind: impl.KindNew, Control: "c1", Tag: "t1", Query: "find me", Page: n}, 0)
	}
	checkRequest(t, page("").message(), impl.Request{Kind: impl.KindNew, Control: "c1", Tag: "t1", Query: "find me", Page: impl.DefaultPage}, 0)
	many := strings.Repeat
	for _, text := range []string{
		"0", "51", "52", "99", "100", "500", "-1", "-0", "-7", "+7", "+0", "07", "007", "050", "00", "7 ", " 7", " ", "7.0", "7.", ".7", "7,0", "1_0", "0x7", "0b1", "0o7", "7e0", "1e1", "x", "7x", "x7", "seven", "7\n", "\n7", "7\x00", "\x007", "7\xff", "\u0667", "\uff17", "7\u00a0", "+", "-", "--7",
		"255", "256", "257", "263", "65543", "4294967295", "4294967296", "4294967303", "9223372036854775807", "9223372036854775808", "18446744073709551615", "18446744073709551616", "18446744073709551623", "340282366920938463463374607431768211463", "-18446744073709551609",
		many("7", 200), many("7", 40000), many("0", 40000) + "7", many("1", 1000000),
	} {
		checkRequest(t, page(text).message(), impl.Request{Control: "c1"}, impl.ErrType)
	}
}

func TestReadRequestOfMessagesThatAreNotValid(t *testing.T) {
	none := impl.Request{}
	checkRequest(t, msg(), none, impl.ErrMessage)
	checkRequest(t, msg(seg("MSH")), none, impl.ErrMessage)
	checkRequest(t, msg(seg("QPD", word("Q"), word("t"))), none, impl.ErrMessage)
	want := impl.Request{Kind: impl.KindNew, Control: "c", Tag: "t", Query: "q", Page: 3}
	good := []impl.Segment{mshOf(word("QBP"), "c", "2.5.1"), seg("QPD", field(), word("t"), word("q")), seg("RCP", field(), word("3"))}
	checkRequest(t, msg(good...), want, 0)
	// Of a name that is there twice, the first counts, wherever it stands and whatever is in it.
	for i, first := range good {
		rest := slices.Delete(slices.Clone(good), i, i+1)
		checkRequest(t, msg(append(slices.Clone(rest), first)...), want, 0)
		checkRequest(t, msg(append(append(slices.Clone(rest), first), seg(first.Name), seg(first.Name, times(15, word("\n"))...))...), want, 0)
	}
	slices.Reverse(good)
	checkRequest(t, msg(good...), want, 0)
	checkRequest(t, msg(append([]impl.Segment{seg("MSH")}, good...)...), none, impl.ErrMessage)
	checkRequest(t, msg(append([]impl.Segment{seg("QPD")}, good...)...), impl.Request{Control: "c"}, impl.ErrMissing)
	checkRequest(t, msg(append([]impl.Segment{seg("RCP")}, good...)...), impl.Request{Kind: impl.KindNew, Control: "c", Tag: "t", Query: "q", Page: 10}, 0)
	checkRequest(t, msg(append([]impl.Segment{seg("DSC", field(), word("p"))}, append(good, seg("DSC", word("p")))...)...), want, 0)
	// Too many segments, names that are none, lists that are too long or not cut short, other components that are not plain.
	odd := append(times(300, seg("zz", times(40, field(times(40, rep(times(40, "\n")...))...))...)), good...)
	checkRequest(t, msg(odd...), want, 0)
	loose := func(text string) impl.Field {
		return field(rep(text, "", "\x00", ""), rep(), rep("", ""))
	}
	checkRequest(t, msg(
		seg("MSH", field(), field(), field(), field(), field(), field(), loose("QBP"), loose("c"), loose(""), loose("2.5.1"), field(), field(rep("", ""))),
		seg("QPD", loose(""), loose("t"), loose("q"), field(rep(""))),
		seg("RCP", field(), loose("3"), field()),
		seg("DSC", field(rep())),
	), want, 0)
	// Only the first component of the first repetition counts.
	checkRequest(t, msg(seg("MSH", append(times(6, field()), field(rep("", "QBP"), rep("QBP")))...)), none, impl.ErrMessage)
	checkRequest(t, msg(mshOf(word("QBP"), "c", "2.5.1"), seg("QPD", field(), field(rep("", "t"), rep("t")), word("q"))), impl.Request{Control: "c"}, impl.ErrMissing)
	checkRequest(t, msg(append(slices.Clone(good), seg("DSC", field(rep("", "p"), rep("p"))))...), want, 0)
	// The fields of MSH are counted from 3.
	checkRequest(t, msg(seg("MSH", append(times(8, field()), word("QBP"), word("c"), field(), word("2.5.1"))...)), none, impl.ErrMessage)
}

// requestMessage is what the document says WriteRequest writes.
func requestMessage(r impl.Request) impl.Message {
	text := func(s string) []impl.Field {
		if s == "" {
			return nil
		}
		return []impl.Field{word(s)}
	}
	if r.Kind == impl.KindCancel {
		return msg(mshOf(field(rep("QCN", "J01")), r.Control, "2.5.1"), seg("QID", word(r.Tag)))
	}
	m := msg(mshOf(field(rep("QBP", "Z01")), r.Control, "2.5.1"), seg("QPD", append([]impl.Field{word("Q"), word(r.Tag)}, text(r.Query)...)...))
	if r.Kind == impl.KindNew {
		m.Segs = append(m.Segs, seg("RCP", field(), word(fmt.Sprint(r.Page))))
	} else {
		m.Segs = append(m.Segs, seg("DSC", word(r.Pointer)))
	}
	return m
}

// canBeRead says whether ReadRequest can give a request with code 0.
func canBeRead(r impl.Request) bool {
	if !ruleText(r.Control, 1, 20) || !ruleText(r.Tag, 1, 16) {
		return false
	}
	switch r.Kind {
	case 1:
		return ruleText(r.Query, 0, 200) && 1 <= r.Page && r.Page <= 50 && r.Pointer == ""
	case 2:
		return ruleText(r.Query, 0, 200) && ruleText(r.Pointer, 1, 200) && r.Page == 0
	case 3:
		return r.Query == "" && r.Pointer == "" && r.Page == 0
	}
	return false
}

func checkWriteRequest(t *testing.T, r impl.Request, good bool) {
	t.Helper()
	got := impl.WriteRequest(r)
	if !good {
		if len(got.Segs) != 0 {
			t.Errorf("WriteRequest(%s): %s, want the zero Message", tellRequest(r), brief(tellMessage(got)))
		}
		return
	}
	if want := requestMessage(r); !sameMessage(got, want) {
		t.Errorf("WriteRequest(%s): %s, want %s", tellRequest(r), brief(tellMessage(got)), brief(tellMessage(want)))
	}
	checkRequest(t, got, r, 0)
	// Promise 4, through Encode and Parse.
	again, code := impl.Parse(impl.Encode(got))
	if code != 0 || !sameMessage(again, got) {
		t.Errorf("%s comes through Encode and Parse as %s %d", tellMessage(got), tellMessage(again), code)
	}
	checkRequest(t, again, r, 0)
}

func TestWriteRequestOfEachKind(t *testing.T) {
	for text, r := range map[string]impl.Request{
		header + "|||||||QBP^Z01|c||2.5.1\rQPD|Q|t|q\rRCP||5\r":                                    {Kind: 1, Control: "c", Tag: "t", Query: "q", Page: 5},
		header + "|||||||QBP^Z01|c||2.5.1\rQPD|Q|t\rRCP||10\r":                                     {Kind: 1, Control: "c", Tag: "t", Page: 10},
		header + "|||||||QBP^Z01|c||2.5.1\rQPD|Q|t|q\rDSC|p\r":                                     {Kind: 2, Control: "c", Tag: "t", Query: "q", Pointer: "p"},
		header + "|||||||QBP^Z01|c||2.5.1\rQPD|Q|t\rDSC|p\r":                                       {Kind: 2, Control: "c", Tag: "t", Pointer: "p"},
		header + "|||||||QCN^J01|c||2.5.1\rQID|t\r":                                                {Kind: 3, Control: "c", Tag: "t"},
		header + `|||||||QBP^Z01|\F\||2.5.1` + "\r" + `QPD|Q|\S\|\R\` + "\r" + `DSC|\E\\T\` + "\r": {Kind: 2, Control: "|", Tag: "^", Query: "~", Pointer: `\&`},
	} {
		checkWriteRequest(t, r, true)
		checkEncode(t, impl.WriteRequest(r), text)
	}
	for page := 1; page <= impl.MaxPage; page++ {
		checkWriteRequest(t, impl.Request{Kind: impl.KindNew, Control: "c", Tag: "t", Query: "q", Page: page}, true)
	}
}

func TestWriteRequestOfWhatCannotBeRead(t *testing.T) {
	goodOnes := []impl.Request{
		{Kind: impl.KindNew, Control: "c", Tag: "t", Query: "q", Page: 5},
		{Kind: impl.KindNext, Control: "c", Tag: "t", Query: "q", Pointer: "p"},
		{Kind: impl.KindCancel, Control: "c", Tag: "t"},
	}
	for _, good := range goodOnes {
		checkWriteRequest(t, good, true)
		for _, kind := range []int{0, 4, -1, -3, 100, math.MinInt, math.MaxInt, math.MaxInt - 1<<32} {
			bad := good
			bad.Kind = kind
			checkWriteRequest(t, bad, false)
		}
		for _, text := range []string{"", strings.Repeat("c", 21), "\n", "c\x7f", strings.Repeat("c", 1000000)} {
			bad := good
			bad.Control = text
			checkWriteRequest(t, bad, false)
		}
		for _, text := range []string{"", strings.Repeat("t", 17), "\x1f", "t\x80", strings.Repeat("t", 1000000)} {
			bad := good
			bad.Tag = text
			checkWriteRequest(t, bad, false)
		}
		for _, text := range []string{longText, "q\n", strings.Repeat("q", 1000000)} {
			bad := good
			bad.Query = text
			checkWriteRequest(t, bad, false)
			bad = good
			bad.Pointer = text
			checkWriteRequest(t, bad, false)
		}
		for _, page := range []int{-1, 51, 60, math.MinInt, math.MaxInt, 1<<32 + 5} {
			bad := good
			bad.Page = page
			checkWriteRequest(t, bad, false)
		}
	}
	for _, bad := range []impl.Request{
		{},
		{Kind: impl.KindNew, Control: "c", Tag: "t", Query: "q"},
		{Kind: impl.KindNew, Control: "c", Tag: "t", Query: "q", Page: 5, Pointer: "p"},
		{Kind: impl.KindNext, Control: "c", Tag: "t", Query: "q"},
		{Kind: impl.KindNext, Control: "c", Tag: "t", Query: "q", Pointer: "p", Page: 5},
		{Kind: impl.KindNext, Control: "c", Tag: "t", Query: "q", Pointer: "p", Page: 10},
		{Kind: impl.KindCancel, Control: "c", Tag: "t", Query: "q"},
		{Kind: impl.KindCancel, Control: "c", Tag: "t", Page: 5},
		{Kind: impl.KindCancel, Control: "c", Tag: "t", Page: 10},
		{Kind: impl.KindCancel, Control: "c", Tag: "t", Pointer: "p"},
	} {
		checkWriteRequest(t, bad, false)
	}
}

// Promise 4, for requests.
func TestWriteRequestOfEveryMixture(t *testing.T) {
	for kind := -1; kind <= 5; kind++ {
		for _, control := range []string{"c", plainBytes[60:80], strings.Repeat("c", 21), "", "\n"} {
			for _, tag := range []string{"t", plainBytes[79:], strings.Repeat("t", 17), "", "\x7f"} {
				for _, query := range []string{"", "q", strings.Repeat("&", 200), longText, "\r"} {
					for _, page := range []int{-1, 0, 1, 10, 50, 51} {
						for _, pointer := range []string{"", "p", strings.Repeat("|", 200), strings.Repeat("p", 201), "\x00"} {
							r := impl.Request{Kind: kind, Control: control, Tag: tag, Query: query, Page: page, Pointer: pointer}
							checkWriteRequest(t, r, canBeRead(r))
						}
					}
				}
			}
		}
		if t.Failed() {
			return
		}
	}
}

func randomText(r *rand.Rand, least, most int) string {
	text := make([]byte, least+r.Intn(most-least+1))
	for i := range text {
		text[i] = plainBytes[r.Intn(len(plainBytes))]
	}
	return string(text)
}

// Promise 4: every request that ReadRequest gives, whatever the message was, is written and read again.
func TestRequestsThatAreReadCanBeWritten(t *testing.T) {
	r := rand.New(rand.NewSource(5))
	for range 5000 {
		a := asked{kind: "QBP", control: randomText(r, 1, 20), version: "2.5.1", tag: randomText(r, 1, 16), query: randomText(r, 0, 200), cancelTag: randomText(r, 1, 16)}
		switch r.Intn(4) {
		case 0:
			a.kind = "QCN"
		case 1:
			a.page = strconv.Itoa(1 + r.Intn(50))
		case 2:
			a.pointer = randomText(r, 1, 200)
		}
		got, code := impl.ReadRequest(a.message())
		if code != 0 {
			t.Fatalf("%+v: code %d", a, code)
		}
		checkWriteRequest(t, got, true)
	}
}

func tellReply(r impl.Reply) string {
	return brief(fmt.Sprintf("%+v", r))
}

func sameReply(a, b impl.Reply) bool {
	return a.Ack == b.Ack && a.Control == b.Control && a.Code == b.Code && a.Tag == b.Tag && slices.Equal(a.Rows, b.Rows) && a.Pointer == b.Pointer
}

// replyMessage is what the document says WriteReply writes.
func replyMessage(r impl.Reply) impl.Message {
	fields := func(texts ...string) []impl.Field {
		var list []impl.Field
		for i, text := range texts {
			if text != "" {
				list = append(append(list, times(i-len(list), field())...), word(text))
			}
		}
		return list
	}
	m := msg(
		seg("MSH", append(times(6, field()), field(rep("RSP", "Z01")), field(), field(), word("2.5.1"))...),
		seg("MSA", fields(r.Ack, r.Control)...),
	)
	if r.Ack == "AA" {
		m.Segs = append(m.Segs, seg("QAK", fields(r.Tag, "OK")...))
	} else {
		m.Segs = append(m.Segs, seg("ERR", fields("", "", fmt.Sprint(r.Code))...), seg("QAK", fields(r.Tag, r.Ack)...))
	}
	for _, row := range r.Rows {
		m.Segs = append(m.Segs, seg("RDT", fields(row)...))
	}
	if r.Pointer != "" {
		m.Segs = append(m.Segs, seg("DSC", word(r.Pointer)))
	}
	return m
}

const compPattern = `((?:[^|^~\\&\r]|\\[FSTRE]\\)*)`
const startPattern = `^MSH\|\^~\\&\|{7}RSP\^Z01\|{3}2\.5\.1\r`

var acceptPattern = regexp.MustCompile(startPattern + `MSA\|AA(?:\|` + compPattern + `)?\rQAK\|` + compPattern + `\|OK\r((?:RDT(?:\|` + compPattern + `)?\r)*)(?:DSC\|` + compPattern + `\r)?$`)
var refusePattern = regexp.MustCompile(startPattern + `MSA\|(AE|AR)(?:\|` + compPattern + `)?\rERR\|\|\|([1-9][0-9]?[0-9]?)\rQAK\|` + compPattern + `\|(AE|AR)\r$`)

// ruleReply is the reply that a message is, read from its encoding by patterns.
func ruleReply(m impl.Message) (impl.Reply, bool) {
	plain := strings.NewReplacer(`\F\`, "|", `\S\`, "^", `\T\`, "&", `\R\`, "~", `\E\`, `\`).Replace
	text := impl.Encode(m)
	r := impl.Reply{}
	if parts := acceptPattern.FindStringSubmatch(text); parts != nil {
		r = impl.Reply{Ack: "AA", Control: plain(parts[1]), Tag: plain(parts[2]), Pointer: plain(parts[5])}
		for _, line := range strings.SplitAfter(parts[3], "\r") {
			if line != "" {
				r.Rows = append(r.Rows, plain(strings.TrimPrefix(strings.Trim(line, "\r"), "RDT|")))
			}
			if line == "RDT\r" {
				r.Rows[len(r.Rows)-1] = ""
			}
		}
	} else if parts := refusePattern.FindStringSubmatch(text); parts != nil && parts[1] == parts[5] {
		code, _ := strconv.Atoi(parts[3])
		r = impl.Reply{Ack: parts[1], Control: plain(parts[2]), Code: code, Tag: plain(parts[4])}
	}
	if !validReply(r) {
		return impl.Reply{}, false
	}
	return r, true
}

func validReply(r impl.Reply) bool {
	for _, row := range r.Rows {
		if !ruleText(row, 0, 200) {
			return false
		}
	}
	rest := ruleText(r.Control, 0, 20) && ruleText(r.Tag, 0, 16) && len(r.Rows) <= 200 && ruleText(r.Pointer, 0, 200)
	switch r.Ack {
	case "AA":
		return rest && r.Code == 0
	case "AE", "AR":
		return rest && 1 <= r.Code && r.Code <= 999 && len(r.Rows) == 0 && r.Pointer == ""
	}
	return false
}

func checkReadReply(t *testing.T, m impl.Message, want impl.Reply, ok bool) {
	t.Helper()
	got, gotOk := impl.ReadReply(m)
	if gotOk != ok || !sameReply(got, want) {
		t.Errorf("ReadReply(%s): %s %v, want %s %v", brief(tellMessage(m)), tellReply(got), gotOk, tellReply(want), ok)
	}
}

func checkWriteReply(t *testing.T, r impl.Reply, good bool) {
	t.Helper()
	got := impl.WriteReply(r)
	if !good {
		if len(got.Segs) != 0 {
			t.Errorf("WriteReply(%s): %s, want the zero Message", tellReply(r), brief(tellMessage(got)))
		}
		return
	}
	if want := replyMessage(r); !sameMessage(got, want) {
		t.Errorf("WriteReply(%s): %s, want %s", tellReply(r), brief(tellMessage(got)), brief(tellMessage(want)))
	}
	checkReadReply(t, got, r, true)
	// Promise 4, through Encode and Parse.
	again, code := impl.Parse(impl.Encode(got))
	if code != 0 || !sameMessage(again, got) {
		t.Errorf("%s comes through Encode and Parse as %s %d", brief(tellMessage(got)), brief(tellMessage(again)), code)
	}
	checkReadReply(t, again, r, true)
}

const replyStart = header + "|||||||RSP^Z01|||2.5.1\r"

func TestWriteReplyOfEachAck(t *testing.T) {
	for text, r := range map[string]impl.Reply{
		"MSA|AA\rQAK||OK\r":                                               {Ack: "AA"},
		"MSA|AA|c\rQAK||OK\r":                                             {Ack: "AA", Control: "c"},
		"MSA|AA\rQAK|t|OK\r":                                              {Ack: "AA", Tag: "t"},
		"MSA|AA|c\rQAK|t|OK\rRDT|a\rRDT\rRDT|b\rDSC|7\r":                  {Ack: "AA", Control: "c", Tag: "t", Rows: []string{"a", "", "b"}, Pointer: "7"},
		"MSA|AA|c\rQAK|t|OK\rRDT\r":                                       {Ack: "AA", Control: "c", Tag: "t", Rows: []string{""}},
		"MSA|AA|c\rQAK|t|OK\rRDT\rRDT\rDSC| \r":                           {Ack: "AA", Control: "c", Tag: "t", Rows: []string{"", ""}, Pointer: " "},
		"MSA|AA|c\rQAK|t|OK\rDSC|p\r":                                     {Ack: "AA", Control: "c", Tag: "t", Pointer: "p"},
		"MSA|AA|\\F\\\rQAK|\\S\\|OK\rRDT|\\T\\\\R\\\rDSC|\\E\\\r":         {Ack: "AA", Control: "|", Tag: "^", Rows: []string{"&~"}, Pointer: `\`},
		"MSA|AE|c\rERR|||204\rQAK|t|AE\r":                                 {Ack: "AE", Control: "c", Code: 204, Tag: "t"},
		"MSA|AE\rERR|||1\rQAK||AE\r":                                      {Ack: "AE", Code: 1},
		"MSA|AR\rERR|||999\rQAK||AR\r":                                    {Ack: "AR", Code: 999},
		"MSA|AR|c\rERR|||100\rQAK|t|AR\r":                                 {Ack: "AR", Control: "c", Code: 100, Tag: "t"},
		"MSA|AA|c\rQAK|t|OK\r" + strings.Repeat("RDT|r\r", 200):           {Ack: "AA", Control: "c", Tag: "t", Rows: times(200, "r")},
		"MSA|AA|c\rQAK|t|OK\r" + strings.Repeat("RDT\r", 200) + "DSC|p\r": {Ack: "AA", Control: "c", Tag: "t", Rows: times(200, ""), Pointer: "p"},
	} {
		checkWriteReply(t, r, true)
		checkEncode(t, impl.WriteReply(r), replyStart+text)
	}
	for code := 1; code <= 999; code++ {
		checkWriteReply(t, impl.Reply{Ack: "AE", Control: "c", Code: code, Tag: "t"}, true)
		checkWriteReply(t, impl.Reply{Ack: "AR", Code: code}, true)
	}
}

func TestWriteReplyOfWhatIsNotValid(t *testing.T) {
	accept := impl.Reply{Ack: "AA", Control: "c", Tag: "t", Rows: []string{"a"}, Pointer: "p"}
	refuse := impl.Reply{Ack: "AE", Control: "c", Code: 100, Tag: "t"}
	reject := impl.Reply{Ack: "AR", Control: "c", Code: 100, Tag: "t"}
	for _, good := range []impl.Reply{accept, refuse, reject} {
		checkWriteReply(t, good, true)
		for _, ack := range []string{"", "A", "aa", "AAA", "AA ", "CA", "CE", "OK", "AE\n"} {
			bad := good
			bad.Ack = ack
			checkWriteReply(t, bad, false)
		}
		for _, text := range []string{strings.Repeat("c", 21), "\n", "c\x7f", strings.Repeat("c", 1000000)} {
			bad := good
			bad.Control = text
			checkWriteReply(t, bad, false)
		}
		for _, text := range []string{strings.Repeat("t", 17), "\x1f", "t\x80", strings.Repeat("t", 1000000)} {
			bad := good
			bad.Tag = text
			checkWriteReply(t, bad, false)
		}
		for _, code := range []int{-1, 1000, math.MinInt, math.MaxInt, 1<<32 + 100} {
			bad := good
			bad.Code = code
			checkWriteReply(t, bad, false)
		}
		for _, rows := range [][]string{{longText}, {"a", "b\n"}, {"\x7f", "b"}, times(201, ""), times(300, "r"), times(100000, "")} {
			bad := good
			bad.Rows = rows
			checkWriteReply(t, bad, false)
		}
		for _, text := range []string{longText, "\n", "p\x00"} {
			bad := good
			bad.Pointer = text
			checkWriteReply(t, bad, false)
		}
	}
	for _, bad := range []impl.Reply{
		{},
		{Ack: "AA", Code: 1}, {Ack: "AA", Code: 204, Control: "c", Tag: "t"},
		{Ack: "AE"}, {Ack: "AR"},
		{Ack: "AE", Code: 5, Rows: []string{"r"}}, {Ack: "AR", Code: 5, Rows: []string{""}},
		{Ack: "AE", Code: 5, Pointer: "p"}, {Ack: "AR", Code: 5, Pointer: "p"},
		{Ack: "AE", Rows: []string{"r"}}, {Ack: "AR", Pointer: "p"},
	} {
		checkWriteReply(t, bad, false)
	}
	// No rows and an empty list of rows are the same.
	for _, good := range []impl.Reply{{Ack: "AE", Code: 5, Rows: []string{}}, {Ack: "AA", Rows: []string{}}} {
		checkWriteReply(t, good, true)
	}
}

func TestWriteReplyAtEachSize(t *testing.T) {
	for size := range 210 {
		text := strings.Repeat("x", size)
		for _, good := range []impl.Reply{{Ack: "AA", Rows: []string{"a", "b"}}, {Ack: "AE", Code: 7}, {Ack: "AR", Code: 7}} {
			one := good
			one.Control = text
			checkWriteReply(t, one, size <= 20)
			one = good
			one.Tag = text
			checkWriteReply(t, one, size <= 16)
			one = good
			one.Pointer = text
			checkWriteReply(t, one, size <= 200 && (size == 0 || good.Ack == "AA"))
			one = good
			one.Rows = []string{"a", text}
			checkWriteReply(t, one, size <= 200 && good.Ack == "AA")
		}
		checkWriteReply(t, impl.Reply{Ack: "AA", Rows: times(size, "r")}, size <= 200)
	}
}

func TestWriteReplyOfMessagesThatAreTooLong(t *testing.T) {
	base := impl.Reply{Ack: "AA", Control: "c", Tag: "t", Rows: times(190, strings.Repeat("r", 200)), Pointer: "p"}
	room := impl.MaxBody - len(impl.Encode(impl.WriteReply(base)))
	if room < 10 {
		t.Fatalf("%d bytes are left", room)
	}
	for more := room - 10; more <= room+10; more++ {
		full := base
		full.Rows = slices.Clone(base.Rows)
		for left := more; left > 0; {
			size := max(0, min(left, 205)-5)
			full.Rows = append(full.Rows, strings.Repeat("r", size))
			left -= size + 5
		}
		message := replyMessage(full)
		checkWriteReply(t, full, impl.Encode(message) != "")
		if impl.Encode(message) == "" {
			// Every reply in it is in order, and still it is no message that WriteReply gives.
			checkReadReply(t, message, impl.Reply{}, false)
		}
	}
	for _, n := range []int{65, 66, 67, 200} {
		wide := impl.Reply{Ack: "AA", Rows: times(n, strings.Repeat("|", 200))}
		checkWriteReply(t, wide, 605*n+len(replyStart)+len("MSA|AA\rQAK||OK\r") <= impl.MaxBody)
	}
	checkWriteReply(t, impl.Reply{Ack: "AA", Rows: times(200, strings.Repeat("r", 200))}, false)
	checkReadReply(t, replyMessage(impl.Reply{Ack: "AA", Rows: times(200, strings.Repeat("r", 200))}), impl.Reply{}, false)
}

// Promise 4, for replies.
func TestWriteReplyOfEveryMixture(t *testing.T) {
	for _, ack := range []string{"AA", "AE", "AR", "", "AB"} {
		for _, control := range []string{"", "c", plainBytes[60:80], strings.Repeat("c", 21), "\n"} {
			for _, code := range []int{-1, 0, 1, 207, 999, 1000} {
				for _, tag := range []string{"", "t", plainBytes[79:], strings.Repeat("t", 17), "\x7f"} {
					for _, rows := range [][]string{nil, {}, {""}, {"a", "", "&|"}, times(200, "r"), times(201, "r"), {longText}, {"a", "\r"}} {
						for _, pointer := range []string{"", "p", strings.Repeat("~", 200), strings.Repeat("p", 201), "\x00"} {
							r := impl.Reply{Ack: ack, Control: control, Code: code, Tag: tag, Rows: rows, Pointer: pointer}
							checkWriteReply(t, r, validReply(r))
						}
					}
				}
			}
		}
		if t.Failed() {
			return
		}
	}
}

func randomReply(r *rand.Rand) impl.Reply {
	one := impl.Reply{Ack: "AA", Control: randomText(r, 0, 20), Tag: randomText(r, 0, 16)}
	if r.Intn(3) == 0 {
		one.Ack, one.Code = []string{"AE", "AR"}[r.Intn(2)], 1+r.Intn(999)
		return one
	}
	for range r.Intn(60) {
		one.Rows = append(one.Rows, randomText(r, 0, 200))
	}
	if r.Intn(2) == 0 {
		one.Pointer = randomText(r, 1, 200)
	}
	return one
}

func TestRepliesComeBack(t *testing.T) {
	r := rand.New(rand.NewSource(6))
	for range 2000 {
		checkWriteReply(t, randomReply(r), true)
	}
}

// cloneMessage has lists of its own, so that one change does not show elsewhere.
func cloneMessage(m impl.Message) impl.Message {
	m.Segs = slices.Clone(m.Segs)
	for i, s := range m.Segs {
		s.Fields = slices.Clone(s.Fields)
		for k, f := range s.Fields {
			f.Reps = slices.Clone(f.Reps)
			for l, r := range f.Reps {
				f.Reps[l].Comps = slices.Clone(r.Comps)
			}
			s.Fields[k] = f
		}
		m.Segs[i] = s
	}
	return m
}

// eachListOf gives the lists that one list becomes by one entry more, less, changed, or by two in another order.
func eachListOf[T any](list []T, others []T, try func([]T)) {
	for i := range len(list) + 1 {
		for _, other := range others {
			try(slices.Insert(slices.Clone(list), i, other))
			if i < len(list) {
				try(slices.Replace(slices.Clone(list), i, i+1, other))
			}
		}
		if i == len(list) {
			break
		}
		try(slices.Delete(slices.Clone(list), i, i+1))
		try(slices.Insert(slices.Clone(list), i, list[i]))
		for k := range i {
			swapped := slices.Clone(list)
			swapped[i], swapped[k] = swapped[k], swapped[i]
			try(swapped)
		}
	}
	try(nil)
}

// eachNeighbour gives the messages that differ from one at one place.
func eachNeighbour(m impl.Message, try func(impl.Message)) {
	segs := []impl.Segment{seg("MSH"), seg("MSA", word("AA")), seg("MSA", word("AE")), seg("ERR", field(), field(), word("5")), seg("QAK", field(), word("OK")), seg("RDT"), seg("RDT", word("x")), seg("DSC", word("8")), seg("DSC"), seg("ZZZ"), seg("zz"), seg("")}
	fields := []impl.Field{field(), word(""), word("x"), word("OK"), word("AA"), word("AE"), word("AR"), word("05"), word("0"), word("12"), word("1000"), word(longText), word(longText[1:]), word("\n")}
	reps := []impl.Rep{rep(), rep(""), rep("x"), rep("x", "y")}
	comps := []string{"", "x", "\n", "AA", "RSP", "Z01", "2.5.1"}
	eachListOf(m.Segs, segs, func(list []impl.Segment) { try(impl.Message{Segs: list}) })
	for i := range m.Segs {
		for _, name := range []string{"MSH", "MSA", "ERR", "QAK", "RDT", "DSC", "ZZZ", "rdt", "RDTX", ""} {
			one := cloneMessage(m)
			one.Segs[i].Name = name
			try(one)
		}
		eachListOf(m.Segs[i].Fields, fields, func(list []impl.Field) {
			one := cloneMessage(m)
			one.Segs[i].Fields = list
			try(one)
		})
		for k, f := range m.Segs[i].Fields {
			eachListOf(f.Reps, reps, func(list []impl.Rep) {
				one := cloneMessage(m)
				one.Segs[i].Fields[k].Reps = list
				try(one)
			})
			for l, r := range f.Reps {
				eachListOf(r.Comps, comps, func(list []string) {
					one := cloneMessage(m)
					one.Segs[i].Fields[k].Reps[l].Comps = list
					try(one)
				})
			}
		}
	}
}

func TestReadReplyOfMessagesWithOneChange(t *testing.T) {
	for _, r := range []impl.Reply{
		{Ack: "AA"},
		{Ack: "AA", Control: "c", Tag: "t"},
		{Ack: "AA", Control: "c", Tag: "t", Rows: []string{"a", "", "b"}, Pointer: "7"},
		{Ack: "AA", Rows: []string{"", "a|b"}},
		{Ack: "AA", Control: "c", Pointer: "p"},
		{Ack: "AE", Control: "c", Code: 204, Tag: "t"},
		{Ack: "AE", Code: 12},
		{Ack: "AR", Code: 1, Tag: "t"},
	} {
		read, all := 0, 0
		eachNeighbour(impl.WriteReply(r), func(m impl.Message) {
			want, ok := ruleReply(m)
			checkReadReply(t, m, want, ok)
			all++
			if ok {
				read++
			}
		})
		if read == 0 || read*4 > all {
			t.Errorf("%d of %d neighbours of %s are read", read, all, tellReply(r))
		}
	}
}

func TestReadReplyOfMessagesWithTwoChanges(t *testing.T) {
	for _, r := range []impl.Reply{{Ack: "AA", Tag: "t", Rows: []string{"a"}}, {Ack: "AE", Code: 12}} {
		count := 0
		eachNeighbour(impl.WriteReply(r), func(m impl.Message) {
			if count++; count%9 != 0 {
				return
			}
			eachNeighbour(m, func(m impl.Message) {
				want, ok := ruleReply(m)
				if got, gotOk := impl.ReadReply(m); gotOk != ok || !sameReply(got, want) {
					t.Fatalf("ReadReply(%s): %s %v, want %s %v", brief(tellMessage(m)), tellReply(got), gotOk, tellReply(want), ok)
				}
			})
		})
	}
}

func TestReadReplyOfOtherTexts(t *testing.T) {
	for _, text := range []string{
		"", "MSA|AA\r", "QAK||OK\r", "MSA|AA\rQAK|t|AE\r", "MSA|AA\rQAK|t\r", "MSA\rQAK||OK\r", "MSA|AE\rQAK|t|AE\r", "MSA|AE\rERR|||5\rQAK||OK\r", "MSA|AE\rERR|||5\rQAK||AR\r", "MSA|AA\rERR|||5\rQAK||OK\r", "MSA|AA\rERR\rQAK||OK\r", "MSA|AA\rERR|||0\rQAK||OK\r",
		"MSA|AE\rERR|||05\rQAK||AE\r", "MSA|AE\rERR|||+5\rQAK||AE\r", "MSA|AE\rERR|||-5\rQAK||AE\r", "MSA|AE\rERR|||0\rQAK||AE\r", "MSA|AE\rERR|||1000\rQAK||AE\r", "MSA|AE\rERR|||\rQAK||AE\r", "MSA|AE\rERR|||x\rQAK||AE\r", "MSA|AE\rERR|||18446744073709551621\rQAK||AE\r", "MSA|AE\rERR|x||5\rQAK||AE\r", "MSA|AE\rERR||x|5\rQAK||AE\r", "MSA|AE\rERR|||5|x\rQAK||AE\r", "MSA|AE\rERR|||5\rERR|||5\rQAK||AE\r", "MSA|AE\rQAK||AE\rERR|||5\r", "MSA|AE\rERR|||5\rQAK||AE\rRDT\r", "MSA|AE\rERR|||5\rQAK||AE\rRDT|r\r", "MSA|AE\rERR|||5\rQAK||AE\rDSC|p\r", "MSA|AE\rERR|||5\rQAK||AE\rDSC\r",
		"MSA|AA\rQAK||OK\rRDT|a|b\r", "MSA|AA\rQAK||OK\rRDT|a^b\r", "MSA|AA\rQAK||OK\rRDT|a~b\r", "MSA|AA\rQAK||OK\rRDT||b\r", "MSA|AA\rQAK||OK\rDSC|1\rRDT|a\r", "MSA|AA\rQAK||OK\rRDT|a\rDSC|1\rRDT|a\r", "MSA|AA\rQAK||OK\rDSC|1\rDSC|1\r", "MSA|AA\rQAK||OK\rDSC\r", "MSA|AA\rQAK||OK\rDSC|1|2\r", "MSA|AA\rQAK||OK\rZZZ\r", "MSA|AA\rZZZ\rQAK||OK\r", "ZZZ\rMSA|AA\rQAK||OK\r", "MSA|AA\rMSA|AA\rQAK||OK\r", "MSA|AA\rQAK||OK\rQAK||OK\r", "QAK||OK\rMSA|AA\r", "MSA|AA|c|x\rQAK||OK\r", "MSA|AA\rQAK||OK|x\r", "MSA|AA\rRDT|a\rQAK||OK\r", "MSA|AB\rQAK||OK\r", "MSA|AA^x\rQAK||OK\r", "MSA|AA\rQAK||OK~OK\r",
		"MSA|AA|" + strings.Repeat("c", 21) + "\rQAK||OK\r", "MSA|AA\rQAK|" + strings.Repeat("t", 17) + "|OK\r", "MSA|AA\rQAK||OK\rRDT|" + longText + "\r", "MSA|AA\rQAK||OK\rDSC|" + longText + "\r", "MSA|AA\rQAK||OK\r" + strings.Repeat("RDT\r", 201),
	} {
		m, code := impl.Parse(replyStart + text)
		if code != 0 {
			t.Fatalf("%s: code %d", short(text), code)
		}
		checkReadReply(t, m, impl.Reply{}, false)
	}
	for _, start := range []string{"", "|x||||||RSP^Z01|||2.5.1", "|||||||RSP^Z01|c||2.5.1", "|||||||RSP^Z01||x|2.5.1", "|||||||RSP^Z01|||2.5", "|||||||RSP^Z01|||2.5.1|x", "|||||||RSP|||2.5.1", "|||||||RSP^Z02|||2.5.1", "|||||||RSP^Z01^x|||2.5.1", "|||||||RSP^Z01~x|||2.5.1", "|||||||QBP^Z01|||2.5.1", "|||||||RSP^Z01"} {
		m, _ := impl.Parse(header + start + "\rMSA|AA\rQAK||OK\r")
		checkReadReply(t, m, impl.Reply{}, false)
	}
	// Other delimiters, and empty lists at the ends: Parse gives the same message for these.
	m, _ := impl.Parse("MSH#$%@!###|||||RSP$Z01###2.5.1\rMSA#AA\rQAK##OK\r")
	checkReadReply(t, m, impl.Reply{}, false)
	m, _ = impl.Parse("MSH#$%@!#######RSP$Z01###2.5.1\rMSA#AA#\rQAK##OK$\rRDT#a@F@|%\rDSC#7#")
	checkReadReply(t, m, impl.Reply{Ack: "AA", Rows: []string{"a#|"}, Pointer: "7"}, true)
}

func TestReadReplyOfOtherMessages(t *testing.T) {
	none := impl.Reply{}
	checkReadReply(t, msg(), none, false)
	checkReadReply(t, msg(seg("MSH")), none, false)
	for _, r := range []impl.Request{{Kind: 1, Control: "c", Tag: "t", Page: 5}, {Kind: 2, Control: "c", Tag: "t", Pointer: "5"}, {Kind: 3, Control: "c", Tag: "t"}} {
		checkReadReply(t, impl.WriteRequest(r), none, false)
	}
	for _, r := range []impl.Reply{{Ack: "AA", Tag: "t"}, {Ack: "AE", Code: 5, Tag: "t"}} {
		checkRequest(t, impl.WriteReply(r), impl.Request{}, impl.ErrMessage)
	}
	// An empty list and the nil list are the same.
	good := impl.WriteReply(impl.Reply{Ack: "AA", Rows: []string{"", "a"}})
	good.Segs[3].Fields = []impl.Field{}
	good.Segs[0].Fields[0].Reps = []impl.Rep{}
	checkReadReply(t, good, impl.Reply{Ack: "AA", Rows: []string{"", "a"}}, true)
	// Messages that are not valid.
	far := impl.WriteReply(impl.Reply{Ack: "AA", Rows: times(200, "r")})
	far.Segs = append(far.Segs, times(100, seg("RDT", word("r")))...)
	checkReadReply(t, far, none, false)
	for _, bad := range []impl.Segment{seg("RDT", word("a\n")), seg("RDT", word("")), seg("RDT", field()), seg("RDT", field(rep())), seg("RDT", word("a"), field()), seg("RDT", field(rep("a", ""))), seg("RDT", field(rep("a"), rep())), seg("MSH", word("a")), seg("rdt", word("a"))} {
		m := impl.WriteReply(impl.Reply{Ack: "AA"})
		m.Segs = append(m.Segs, bad)
		checkReadReply(t, m, none, false)
	}
}

func TestRequestsAndRepliesAreLeftAlone(t *testing.T) {
	rows := roomy([]string{"a", "", "|"}, "kept")
	reply := impl.Reply{Ack: "AA", Control: "c", Tag: "t", Rows: rows, Pointer: "p"}
	bad := impl.Reply{Ack: "AE", Code: 5, Rows: rows}
	long := impl.Reply{Ack: "AA", Rows: roomy(times(200, longText[1:]), "kept")}
	written := replyMessage(reply)
	written.Segs = roomy(written.Segs, seg("KEP"))
	for i, s := range written.Segs {
		written.Segs[i].Fields = roomy(s.Fields, word("kept"))
		for k, f := range s.Fields {
			written.Segs[i].Fields[k].Reps = roomy(f.Reps, rep("kept"))
			for l, r := range f.Reps {
				written.Segs[i].Fields[k].Reps[l].Comps = roomy(r.Comps, "kept")
			}
		}
	}
	query := goodNext.message()
	query.Segs = roomy(query.Segs, seg("KEP"))
	tell := func() string {
		text := fmt.Sprintf("%q %q %q", rows[:5], long.Rows[:202], query.Segs[:7])
		for _, s := range written.Segs[:cap(written.Segs)] {
			text += fmt.Sprintf("%q", s.Fields[:cap(s.Fields)])
			for _, f := range s.Fields {
				text += fmt.Sprintf("%q", f.Reps[:cap(f.Reps)])
				for _, r := range f.Reps {
					text += fmt.Sprintf("%q", r.Comps[:cap(r.Comps)])
				}
			}
		}
		return text
	}
	before := tell()
	impl.WriteReply(reply)
	impl.WriteReply(bad)
	impl.WriteReply(long)
	checkReadReply(t, written, reply, true)
	impl.ReadRequest(written)
	impl.ReadRequest(query)
	impl.ReadReply(query)
	if after := tell(); after != before {
		t.Errorf("changed from %s to %s", short(before), short(after))
	}
}

func TestWrittenListsAreApart(t *testing.T) {
	var spans []span
	for _, r := range []impl.Request{{Kind: 1, Control: "c", Tag: "t", Query: "q", Page: 5}, {Kind: 2, Control: "c", Tag: "t", Query: "q", Pointer: "p"}, {Kind: 3, Control: "c", Tag: "t"}} {
		spans = append(spans, messageSpans(impl.WriteRequest(r))...)
		spans = append(spans, messageSpans(impl.WriteRequest(r))...)
	}
	for _, r := range []impl.Reply{{Ack: "AA", Control: "c", Tag: "t", Rows: []string{"a", "", "b"}, Pointer: "p"}, {Ack: "AA"}, {Ack: "AE", Code: 5}, {Ack: "AR", Control: "c", Code: 5, Tag: "t"}} {
		first, second := impl.WriteReply(r), impl.WriteReply(r)
		one, _ := impl.ReadReply(first)
		two, _ := impl.ReadReply(first)
		spans = append(append(spans, messageSpans(first)...), messageSpans(second)...)
		spans = append(spans, spanOf(r.Rows), spanOf(one.Rows), spanOf(two.Rows))
	}
	checkApart(t, spans)
}
