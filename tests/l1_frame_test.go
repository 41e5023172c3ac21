package tests

import (
	"fmt"
	"runtime"
	"strings"
	"testing"
	"time"

	"loop.example/s01639/impl"
)

const (
	begin = "\x0b"
	end   = "\x1c"
	ret   = "\r"
)

var (
	outside  = impl.Framer{}
	badForm  = impl.Frame{Bad: impl.BadForm}
	badLong  = impl.Frame{Bad: impl.BadLong}
	fullBody = strings.Repeat("b", impl.MaxBody)
)

func good(body string) impl.Frame {
	return impl.Frame{Body: body}
}

func inside(buf string) impl.Framer {
	return impl.Framer{In: true, Buf: buf}
}

func held(buf string) impl.Framer {
	return impl.Framer{In: true, Hold: true, Buf: buf}
}

// short keeps a failure readable where a body is at its limit.
func short(s string) string {
	if len(s) > 40 {
		return fmt.Sprintf("%q.. (%d bytes)", s[:40], len(s))
	}
	return fmt.Sprintf("%q", s)
}

func tellFramer(f impl.Framer) string {
	return fmt.Sprintf("{In %v Hold %v Buf %s}", f.In, f.Hold, short(f.Buf))
}

func tellFrames(frames []impl.Frame) string {
	parts := []string{}
	for _, f := range frames {
		if len(parts) == 10 {
			parts = append(parts, fmt.Sprintf(".. (%d frames)", len(frames)))
			break
		}
		parts = append(parts, fmt.Sprintf("{%d %s}", f.Bad, short(f.Body)))
	}
	return "[" + strings.Join(parts, " ") + "]"
}

func sameFrames(a, b []impl.Frame) bool {
	if len(a) != len(b) {
		return false
	}
	for i := range a {
		if a[i] != b[i] {
			return false
		}
	}
	return true
}

func checkFeed(t *testing.T, f impl.Framer, s string, wantEnd impl.Framer, want ...impl.Frame) {
	t.Helper()
	gotEnd, got := impl.Feed(f, s)
	if gotEnd != wantEnd || !sameFrames(got, want) {
		t.Fatalf("Feed(%s, %s): %s %s, want %s %s", tellFramer(f), short(s), tellFramer(gotEnd), tellFrames(got), tellFramer(wantEnd), tellFrames(want))
	}
}

// feedParts takes the parts of a stream one behind the other.
func feedParts(f impl.Framer, parts ...string) (impl.Framer, []impl.Frame) {
	all := []impl.Frame{}
	for _, p := range parts {
		var frames []impl.Frame
		f, frames = impl.Feed(f, p)
		all = append(all, frames...)
	}
	return f, all
}

func checkParts(t *testing.T, f impl.Framer, s string, parts ...string) {
	t.Helper()
	wantEnd, want := impl.Feed(f, s)
	gotEnd, got := feedParts(f, parts...)
	if gotEnd != wantEnd || !sameFrames(got, want) {
		t.Fatalf("Feed(%s, %s) in %d parts, the first of %d bytes: %s %s, whole: %s %s", tellFramer(f), short(s), len(parts), len(parts[0]), tellFramer(gotEnd), tellFrames(got), tellFramer(wantEnd), tellFrames(want))
	}
}

// stepRule is one byte by the rules of the document, on the framer's fields.
func stepRule(f impl.Framer, b byte) (impl.Framer, []impl.Frame) {
	switch {
	case !f.In && b == impl.FrameBegin:
		return inside(""), nil
	case !f.In:
		return outside, nil
	case f.Hold && b == impl.FrameReturn:
		return outside, []impl.Frame{good(f.Buf)}
	case f.Hold:
		next, _ := stepRule(outside, b)
		return next, []impl.Frame{badForm}
	case b == impl.FrameBegin:
		return inside(""), []impl.Frame{badForm}
	case b == impl.FrameEnd:
		return held(f.Buf), nil
	case len(f.Buf) == impl.MaxBody:
		return outside, []impl.Frame{badLong}
	}
	return inside(f.Buf + string([]byte{b})), nil
}

func feedRule(f impl.Framer, s string) (impl.Framer, []impl.Frame) {
	all := []impl.Frame{}
	for i := 0; i < len(s); i++ {
		var frames []impl.Frame
		f, frames = stepRule(f, s[i])
		all = append(all, frames...)
	}
	return f, all
}

// eachStream gives every text of at most size bytes from the bytes that matter and one that does not.
func eachStream(size int, do func(s string)) {
	last := []string{""}
	do("")
	for range size {
		next := []string{}
		for _, s := range last {
			for _, b := range []string{begin, end, ret, "a"} {
				do(s + b)
				next = append(next, s+b)
			}
		}
		last = next
	}
}

func TestFeedFollowsTheRules(t *testing.T) {
	check := func(f impl.Framer, s string) {
		wantEnd, want := feedRule(f, s)
		checkFeed(t, f, s, wantEnd, want...)
	}
	for _, f := range []impl.Framer{outside, inside(""), inside("x\r"), held(""), held("x")} {
		eachStream(6, func(s string) { check(f, s) })
	}
	almost := fullBody[1:]
	for _, f := range []impl.Framer{inside(almost), inside(fullBody), held(fullBody)} {
		eachStream(4, func(s string) { check(f, s) })
	}
}

func TestFeedOrdinary(t *testing.T) {
	checkFeed(t, outside, "", outside)
	checkFeed(t, inside("ab"), "", inside("ab"))
	checkFeed(t, held("ab"), "", held("ab"))
	checkFeed(t, outside, "no frame\r"+end+ret, outside)
	checkFeed(t, outside, begin+"one"+end+ret+"noise"+begin+"two"+end+ret, outside, good("one"), good("two"))
	checkFeed(t, outside, begin+end+ret, outside, good(""))
	checkFeed(t, outside, begin+"a\rb\r"+end+ret, outside, good("a\rb\r"))
	checkFeed(t, outside, begin+"\x00\xff\xc3\x28"+end+ret, outside, good("\x00\xff\xc3\x28"))
}

func TestFeedKeepsEveryOtherByte(t *testing.T) {
	for b := range 256 {
		if b == impl.FrameBegin || b == impl.FrameEnd {
			continue
		}
		one := string([]byte{byte(b)})
		checkFeed(t, outside, one, outside)
		checkFeed(t, outside, begin+one+end+ret, outside, good(one))
		if b != impl.FrameReturn {
			checkFeed(t, held("x"), one, outside, badForm)
		}
	}
}

func TestFeedBadForm(t *testing.T) {
	checkFeed(t, outside, begin+"lost"+begin+"kept"+end+ret, outside, badForm, good("kept"))
	checkFeed(t, outside, begin+begin+begin, inside(""), badForm, badForm)
	checkFeed(t, outside, begin+"ab"+end+"x"+ret, outside, badForm)
	checkFeed(t, outside, begin+"ab"+end+end+ret, outside, badForm)
	checkFeed(t, outside, begin+"ab"+end+begin+"c"+end+ret, outside, badForm, good("c"))
	checkFeed(t, held("ab"), begin, inside(""), badForm)
	checkFeed(t, outside, begin+end+begin+end+begin+end+ret, outside, badForm, badForm, good(""))
}

func TestFeedBodyAtItsLimit(t *testing.T) {
	checkFeed(t, outside, begin+fullBody+end+ret, outside, good(fullBody))
	checkFeed(t, outside, begin+fullBody, inside(fullBody))
	checkFeed(t, outside, begin+fullBody+"c"+end+ret, outside, badLong)
	checkFeed(t, outside, begin+fullBody+"cd"+begin+"next"+end+ret, outside, badLong, good("next"))
	checkFeed(t, inside(fullBody), ret, outside, badLong)
	checkFeed(t, inside(fullBody), end, held(fullBody))
	checkFeed(t, inside(fullBody), begin, inside(""), badForm)
	checkFeed(t, held(fullBody), ret, outside, good(fullBody))
	checkFeed(t, outside, begin+fullBody+"c"+begin+fullBody+end+ret, outside, badLong, good(fullBody))
}

func TestFeedStreamAtItsLimit(t *testing.T) {
	const limit = 1000000
	noise := strings.Repeat("n", limit-len(begin+"last"+end+ret))
	s := noise + begin + "last" + end + ret
	checkFeed(t, outside, s, outside, good("last"))
	checkFeed(t, outside, "n"+s, outside)
	checkFeed(t, inside("ab"), strings.Repeat("n", limit+1), outside)
	checkFeed(t, held("ab"), ret+strings.Repeat("n", limit), outside)

	begins := strings.Repeat(begin, limit)
	gotEnd, frames := impl.Feed(outside, begins)
	if gotEnd != inside("") || len(frames) != limit-1 {
		t.Fatalf("a begin at every byte: %s and %d frames", tellFramer(gotEnd), len(frames))
	}
	for i, f := range frames {
		if f != badForm {
			t.Fatalf("a begin at every byte: frame %d is %v", i, f)
		}
	}
}

func TestFeedNotValid(t *testing.T) {
	s := begin + "x" + end + ret
	for _, f := range []impl.Framer{
		{Hold: true},
		{Buf: "x"},
		{Hold: true, Buf: "x"},
		{Buf: fullBody},
		inside(begin), inside("a" + begin + "b"), held("a" + begin),
		inside(end), inside("a" + end + "b"), held("a" + end),
		inside(fullBody + "b"), held(fullBody + "b"),
		inside(fullBody[1:] + begin), inside(fullBody[1:] + end),
	} {
		for _, stream := range []string{"", ret, end + ret, s, s + begin + "y"} {
			checkFeed(t, f, stream, outside)
		}
	}
}

func TestFeedShortStreamsCutAnywhere(t *testing.T) {
	for _, f := range []impl.Framer{outside, inside(""), inside("x"), held("x")} {
		eachStream(5, func(s string) {
			for i := 0; i <= len(s); i++ {
				checkParts(t, f, s, s[:i], s[i:])
			}
			checkParts(t, f, s, append(strings.Split(s, ""), "")...)
		})
	}
}

func TestFeedLongStreamCutAnywhere(t *testing.T) {
	s := "noise" + begin + "one" + end + ret + begin + "lost" + begin + "two\r" + end + ret + end + ret +
		begin + "broken" + end + begin + "three" + end + ret + begin + "broken" + end + end + ret + begin + end + ret + begin + "open" + end
	for _, f := range []impl.Framer{outside, inside("x"), held("x")} {
		for i := 0; i <= len(s); i++ {
			for j := i; j <= len(s); j++ {
				checkParts(t, f, s, s[:i], s[i:j], s[j:])
			}
		}
	}
}

func TestFeedCutAtTheBodyLimit(t *testing.T) {
	tails := []string{end + ret + begin + "next", "c" + end + ret + begin + "next" + end + ret, "c" + begin + "n" + end, begin + "n" + end + ret, end + begin + "n", end + "c" + begin}
	for _, tail := range tails {
		s := begin + fullBody[2:] + "yz" + tail
		limit := len(begin) + impl.MaxBody
		cuts := []int{0, 1, 2, impl.MaxBody / 2}
		for i := limit - 3; i <= len(s); i++ {
			cuts = append(cuts, i)
		}
		for _, i := range cuts {
			checkParts(t, outside, s, s[:i], s[i:])
		}
	}
}

func TestFeedGreatestStreamInParts(t *testing.T) {
	unit := begin + "body\r" + end + ret + "noise" + begin + "bad" + end + begin + "again" + begin + "good" + end + ret
	s := strings.Repeat(unit, 1000000/len(unit)+1)[:1000000]
	for _, size := range []int{999999, 500000, 77777, 4100} {
		parts := []string{}
		for i := 0; i < len(s); i += size {
			parts = append(parts, s[i:min(i+size, len(s))])
		}
		checkParts(t, outside, s, parts...)
	}
}

func TestFeedOfWrapGivesTheBody(t *testing.T) {
	bodies := []string{"", "a", ret, "a\rb\r", "\x00\xff", "MSH|^~\\&|", fullBody, fullBody[1:] + ret, fullBody[:impl.MaxBody-1]}
	for _, body := range bodies {
		checkFeed(t, outside, impl.Wrap(body), outside, good(body))
	}
	eachStream(6, func(s string) {
		if !strings.ContainsAny(s, begin+end) {
			checkFeed(t, outside, impl.Wrap(s), outside, good(s))
		}
	})
	// No framer outside a frame but the zero one is valid, so none gives the body.
	for _, f := range []impl.Framer{{Hold: true}, {Buf: "a"}, {Hold: true, Buf: "a"}} {
		checkFeed(t, f, impl.Wrap("body"), outside)
	}
}

func TestWrap(t *testing.T) {
	for _, c := range []struct{ body, want string }{
		{"", begin + end + ret},
		{"ab", begin + "ab" + end + ret},
		{"a\r", begin + "a\r" + end + ret},
		{"\xff", begin + "\xff" + end + ret},
		{fullBody, begin + fullBody + end + ret},
		{fullBody + "b", ""},
		{begin, ""}, {"a" + begin, ""}, {begin + "a", ""},
		{end, ""}, {"a" + end, ""}, {end + "a", ""},
		{fullBody[1:] + begin, ""}, {fullBody[1:] + end, ""},
	} {
		if got := impl.Wrap(c.body); got != c.want {
			t.Errorf("Wrap(%s): %s, want %s", short(c.body), short(got), short(c.want))
		}
	}
}

func TestFeedLeavesNoGoroutine(t *testing.T) {
	before := runtime.NumGoroutine()
	for range 200 {
		impl.Feed(outside, begin+"a"+end+ret+begin+begin)
		impl.Feed(inside("a"), "")
		impl.Feed(impl.Framer{Hold: true}, begin)
	}
	// A goroutine that has done its last act may be counted for a moment more.
	for range 100 {
		if runtime.NumGoroutine() <= before {
			return
		}
		time.Sleep(10 * time.Millisecond)
	}
	t.Errorf("%d goroutines before, %d behind Feed", before, runtime.NumGoroutine())
}
