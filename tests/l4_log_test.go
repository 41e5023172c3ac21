package tests

import (
	"fmt"
	"math"
	"math/rand"
	"slices"
	"strings"
	"testing"
	"unsafe"

	"loop.example/s01639/impl"
)

// zeros is n bytes 0.
func zeros(n int) string {
	return strings.Repeat("\x00", n)
}

// ruleRecord writes a record byte by byte, of a text of any size and with any size in front.
func ruleRecord(s string, size int) string {
	room := string([]byte{byte(size % 256), byte(size / 256 % 256), byte(size / 65536)}) + s
	for len(room)%31 != 0 {
		room += "\x00"
	}
	record := []byte{}
	for i := range len(room) {
		record = append(record, room[i])
		if i == 30 {
			record = append(record, 'A')
		} else if i%31 == 30 {
			record = append(record, 'B')
		}
	}
	return string(record)
}

// ruleFirst tells the text of the record at the beginning of an image and its size, 0 if none stands there.
func ruleFirst(image string) (string, int) {
	if len(image) < 32 {
		return "", 0
	}
	size := int(image[0]) + 256*int(image[1]) + 65536*int(image[2])
	if size > impl.MaxRecord {
		return "", 0
	}
	text := []byte{}
	for i := 0; ; i++ {
		place := i/31*32 + i%31
		if place >= len(image) {
			return "", 0
		}
		if i >= 3 && i < size+3 {
			text = append(text, image[place])
		}
		if i >= size+3 && image[place] != 0 {
			return "", 0
		}
		if i%31 != 30 {
			continue
		}
		mark := byte('B')
		if i == 30 {
			mark = 'A'
		}
		if place+1 >= len(image) || image[place+1] != mark {
			return "", 0
		}
		if i+1 >= size+3 {
			return string(text), place + 2
		}
	}
}

func ruleReadLog(image string) ([]string, int) {
	texts := []string{}
	all := 0
	for len(image) <= impl.MaxDisk {
		text, size := ruleFirst(image[all:])
		if size == 0 {
			break
		}
		texts = append(texts, text)
		all += size
	}
	return texts, all
}

func tellTexts(texts []string) string {
	parts := []string{}
	for _, s := range texts {
		parts = append(parts, short(s))
	}
	return brief(fmt.Sprintf("%d texts [%s]", len(texts), strings.Join(parts, " ")))
}

func checkReadLog(t *testing.T, image string, size int, want ...string) {
	t.Helper()
	got, gotSize := impl.ReadLog(image)
	if !slices.Equal(got, want) || gotSize != size {
		t.Fatalf("ReadLog(%s): %s %d, want %s %d", short(image), tellTexts(got), gotSize, tellTexts(want), size)
	}
}

// checkReadRule holds ReadLog against the second reading of its rules.
func checkReadRule(t *testing.T, image string) {
	t.Helper()
	want, size := ruleReadLog(image)
	checkReadLog(t, image, size, want...)
}

// logOf is the records of texts, one behind the other, and where each ends.
func logOf(texts ...string) (string, []int) {
	image := ""
	ends := []int{}
	for _, s := range texts {
		image += impl.Record(s)
		ends = append(ends, len(image))
	}
	return image, ends
}

// wholeBefore is how many records end at or ahead of a place, and the bytes that they take.
func wholeBefore(ends []int, place int) (int, int) {
	n, size := 0, 0
	for n < len(ends) && ends[n] <= place {
		size = ends[n]
		n++
	}
	return n, size
}

func setByte(s string, place int, b byte) string {
	return s[:place] + string([]byte{b}) + s[place+1:]
}

// countedText is of a size, with bytes of every value from the first on.
func countedText(size int, first byte) string {
	text := make([]byte, size)
	for i := range text {
		text[i] = first + byte(i)
	}
	return string(text)
}

// edgeSizes are those at which a record takes a sector more, with their neighbours.
func edgeSizes() []int {
	sizes := []int{0, 1, 2, 3}
	for _, sectors := range []int{1, 2, 3, 4, 8, 9, 100} {
		full := 31*sectors - 3
		sizes = append(sizes, full-1, full, full+1)
	}
	return sizes
}

// someTexts have one sector and many, are full and nearly so, and hold zeros and marks.
func someTexts() []string {
	return []string{"one", "", strings.Repeat("B", 100), countedText(28, 0), countedText(29, 200), zeros(59), strings.Repeat("A", 58), "two\x00\x00", countedText(300, 7)}
}

func TestRecordOfLiteralTexts(t *testing.T) {
	for _, c := range [][2]string{
		{"", zeros(31) + "A"},
		{"hello", "\x05\x00\x00hello" + zeros(23) + "A"},
		{"\x00", "\x01" + zeros(30) + "A"},
		{strings.Repeat("x", 27), "\x1b\x00\x00" + strings.Repeat("x", 27) + "\x00A"},
		{strings.Repeat("x", 28), "\x1c\x00\x00" + strings.Repeat("x", 28) + "A"},
		{strings.Repeat("x", 29), "\x1d\x00\x00" + strings.Repeat("x", 28) + "A" + "x" + zeros(30) + "B"},
		{strings.Repeat("x", 59), "\x3b\x00\x00" + strings.Repeat("x", 28) + "A" + strings.Repeat("x", 31) + "B"},
		{strings.Repeat("x", 60), "\x3c\x00\x00" + strings.Repeat("x", 28) + "A" + strings.Repeat("x", 31) + "B" + "x" + zeros(30) + "B"},
	} {
		if got := impl.Record(c[0]); got != c[1] {
			t.Errorf("Record(%q): %q, want %q", c[0], got, c[1])
		}
	}
}

func TestRecordOfEverySize(t *testing.T) {
	sizes := edgeSizes()
	for size := range 400 {
		sizes = append(sizes, size)
	}
	for _, size := range append(sizes, 4095, 4096, 59999, 60000) {
		for _, s := range []string{countedText(size, byte(size)), zeros(size), strings.Repeat("A", size)} {
			got := impl.Record(s)
			if got != ruleRecord(s, size) {
				t.Fatalf("Record of %s: %s", short(s), short(got))
			}
			if len(got) != (size+3+30)/31*32 {
				t.Fatalf("Record of %s has %d bytes", short(s), len(got))
			}
		}
	}
}

func TestRecordMarksEachSector(t *testing.T) {
	for _, size := range edgeSizes() {
		got := impl.Record(strings.Repeat("?", size))
		for i := 31; i < len(got); i += 32 {
			want := byte('B')
			if i == 31 {
				want = 'A'
			}
			if got[i] != want {
				t.Fatalf("Record of %d bytes: mark %d is %q, want %q", size, i/32, got[i], want)
			}
		}
	}
}

func TestRecordAtItsLimit(t *testing.T) {
	most := strings.Repeat("x", impl.MaxRecord)
	got := impl.Record(most)
	if got != ruleRecord(most, impl.MaxRecord) || got[:3] != "\x60\xea\x00" {
		t.Errorf("Record of %d bytes: %s", len(most), short(got))
	}
	checkReadLog(t, got, len(got), most)
	for _, size := range []int{impl.MaxRecord + 1, 65535, 65536, 1 << 24, 1<<24 + 5} {
		if got := impl.Record(strings.Repeat("x", size)); got != "" {
			t.Errorf("Record of %d bytes: %s, want none", size, short(got))
		}
	}
}

func TestReadLogOfRecords(t *testing.T) {
	checkReadLog(t, "", 0)
	checkReadLog(t, impl.Record(""), 32, "")
	checkReadLog(t, impl.Record("")+impl.Record(""), 64, "", "")
	checkReadLog(t, impl.Record("a\x00\x00"), 32, "a\x00\x00")
	checkReadLog(t, impl.Record("one")+impl.Record(strings.Repeat("B", 100))+impl.Record("two"), 192, "one", strings.Repeat("B", 100), "two")
	texts := someTexts()
	for n := range len(texts) + 1 {
		image, _ := logOf(texts[:n]...)
		checkReadLog(t, image, len(image), texts[:n]...)
	}
	for _, size := range edgeSizes() {
		s := countedText(size, 'A')
		checkReadLog(t, impl.Record(s), len(impl.Record(s)), s)
	}
}

func TestReadLogStopsAtWhatIsNoRecord(t *testing.T) {
	first, ends := logOf("one", strings.Repeat("x", 40))
	for _, tail := range []string{
		"t", "tail", zeros(1), zeros(31), zeros(32), zeros(33), zeros(96),
		strings.Repeat("A", 32), strings.Repeat("\xff", 64), zeros(31) + "B",
		impl.Record(strings.Repeat("y", 60))[32:],
		"\x00" + impl.Record("shifted"),
	} {
		for _, behind := range []string{"", impl.Record("behind")} {
			checkReadLog(t, first+tail+behind, ends[1], "one", strings.Repeat("x", 40))
			checkReadLog(t, tail+behind, 0)
		}
	}
}

// Promise 5: cut anywhere, the records that are whole ahead of the cut.
func TestReadLogOfAnImageCutAnywhere(t *testing.T) {
	texts := someTexts()
	image, ends := logOf(texts...)
	for cut := range len(image) + 1 {
		n, size := wholeBefore(ends, cut)
		checkReadLog(t, image[:cut], size, texts[:n]...)
	}
}

// Promise 5: a sector whose last byte is 0 ends the log ahead of its record; so does any other byte that is not its mark.
func TestReadLogOfAnImageWithAnotherMark(t *testing.T) {
	texts := someTexts()
	image, ends := logOf(texts...)
	for place := 31; place < len(image); place += 32 {
		n, size := wholeBefore(ends, place)
		for b := range 256 {
			if byte(b) == image[place] {
				continue
			}
			checkReadLog(t, setByte(image, place, byte(b)), size, texts[:n]...)
		}
	}
}

func TestReadLogOfMarksInTheWrongOrder(t *testing.T) {
	s := strings.Repeat("s", 80)
	record := impl.Record(s)
	if len(record) != 96 {
		t.Fatalf("%d bytes", len(record))
	}
	eachText([]string{"A", "B", "\x00"}, 3, func(marks string) {
		if len(marks) != 3 {
			return
		}
		image := record[:31] + marks[:1] + record[32:63] + marks[1:2] + record[64:95] + marks[2:]
		if marks == "ABB" {
			checkReadLog(t, image, 96, s)
		} else {
			checkReadLog(t, image, 0)
			checkReadLog(t, impl.Record("")+image+impl.Record(""), 32, "")
		}
	})
	checkReadLog(t, record[:32]+record[64:]+record[32:64], 0)
	checkReadLog(t, record[32:64]+record[:32]+record[64:], 0)
}

func TestReadLogOfPaddingThatIsNotZero(t *testing.T) {
	for _, size := range edgeSizes() {
		s := strings.Repeat("s", size)
		record := impl.Record(s)
		for place := range record {
			if place%32 == 31 || place/32*31+place%32 < size+3 {
				continue
			}
			for _, b := range []byte{1, 'A', 'B', 's', 0x80, 0xff} {
				image := setByte(record, place, b)
				checkReadLog(t, image, 0)
				checkReadLog(t, impl.Record("before")+image+record, 32, "before")
			}
		}
	}
}

// A size is wrong if it leaves out a byte of its last sector that is not 0, or asks for a sector that is not there or has the mark of a first.
func TestReadLogOfAnotherSize(t *testing.T) {
	before := impl.Record("before")
	behind := impl.Record("behind") + impl.Record("more")
	for _, size := range []int{0, 5, 27, 28, 29, 58, 59, 60, 300} {
		s := strings.Repeat("s", size)
		sectors := (size + 3 + 30) / 31
		for said := range 700 {
			image := ruleRecord(s, said)
			saidSectors := (said + 3 + 30) / 31
			switch {
			case said < size && (said+3)%31 == 0:
				checkReadLog(t, before+image+behind, 32+32*saidSectors, "before", s[:said])
			case said >= size && saidSectors == sectors:
				checkReadLog(t, before+image, 32+len(image), "before", s+zeros(said-size))
			default:
				checkReadLog(t, image, 0)
				checkReadLog(t, before+image, 32, "before")
				checkReadLog(t, before+image+behind, 32, "before")
			}
		}
	}
}

func TestReadLogOfOneSectorTooFewOrTooMany(t *testing.T) {
	s := zeros(70)
	record := impl.Record(s)
	if len(record) != 96 {
		t.Fatalf("%d bytes", len(record))
	}
	checkReadLog(t, record[:64], 0)
	checkReadLog(t, record[:64]+impl.Record("behind"), 0)
	extra := zeros(31) + "B"
	checkReadLog(t, record+extra, 96, s)
	checkReadLog(t, record+extra+impl.Record("behind"), 96, s)
	checkReadLog(t, ruleRecord(zeros(70), 55), 64, zeros(55))
	checkReadLog(t, ruleRecord(zeros(70), 28), 32, zeros(28))
	checkReadLog(t, ruleRecord(zeros(70), 91), 0)
}

func TestReadLogOfSizesAtTheLimit(t *testing.T) {
	for _, size := range []int{impl.MaxRecord - 1, impl.MaxRecord} {
		s := strings.Repeat("s", size)
		image := ruleRecord(s, size)
		checkReadLog(t, image, len(image), s)
		checkReadLog(t, image[:len(image)-1], 0)
	}
	for _, size := range []int{impl.MaxRecord + 1, impl.MaxRecord + 31, 65536, 65536 + 5, 1 << 20, 1<<24 - 1} {
		image := ruleRecord(strings.Repeat("s", min(size, 1<<20)), size)
		checkReadLog(t, image, 0)
		checkReadLog(t, impl.Record("before")+image, 32, "before")
		checkReadLog(t, ruleRecord("s", size), 0)
	}
}

func TestReadLogAtMaxDisk(t *testing.T) {
	n := impl.MaxDisk / 32
	full := strings.Repeat(impl.Record("full"), n)
	if len(full) != impl.MaxDisk {
		t.Fatalf("%d bytes", len(full))
	}
	checkReadLog(t, full, impl.MaxDisk, times(n, "full")...)
	checkReadLog(t, full[:len(full)-1], impl.MaxDisk-32, times(n-1, "full")...)
	checkReadLog(t, full+"\x00", 0)
	checkReadLog(t, full+impl.Record("full"), 0)
	checkReadLog(t, zeros(impl.MaxDisk), 0)
	checkReadLog(t, impl.Record("one")+zeros(impl.MaxDisk-32), 32, "one")
	checkReadLog(t, impl.Record("one")+zeros(impl.MaxDisk-31), 0)
}

func randomBytes(r *rand.Rand, most int) string {
	text := make([]byte, r.Intn(most+1))
	for i := range text {
		text[i] = "\x00\x00\x01\x05\x20AB~\xff"[r.Intn(9)]
	}
	return string(text)
}

func randomTexts(r *rand.Rand) []string {
	texts := []string{}
	for range r.Intn(6) {
		texts = append(texts, randomBytes(r, 120))
	}
	return texts
}

// Promise 5: records one behind the other, whole, cut, and with a byte changed, held against the rules.
func TestReadLogOfRandomImages(t *testing.T) {
	r := rand.New(rand.NewSource(41))
	for range 20000 {
		texts := randomTexts(r)
		image, ends := logOf(texts...)
		checkReadLog(t, image, len(image), texts...)
		cut := r.Intn(len(image) + 1)
		n, size := wholeBefore(ends, cut)
		checkReadLog(t, image[:cut], size, texts[:n]...)
		if image == "" {
			continue
		}
		sector := 32*r.Intn(len(image)/32) + 31
		n, size = wholeBefore(ends, sector)
		checkReadLog(t, setByte(image, sector, 0), size, texts[:n]...)
		checkReadRule(t, setByte(image, r.Intn(len(image)), byte(r.Intn(256))))
		checkReadRule(t, setByte(image, r.Intn(len(image)), "\x00\x01AB"[r.Intn(4)]))
		checkReadRule(t, image+randomBytes(r, 70))
		checkReadRule(t, image[r.Intn(len(image)):])
		checkReadRule(t, image[32*r.Intn(len(image)/32):])
	}
}

func tellDisk(d impl.Disk) string {
	return fmt.Sprintf("{Stable %s Now %s}", short(d.Stable), short(d.Now))
}

func checkCrash(t *testing.T, d impl.Disk, picks []int, want string) {
	t.Helper()
	got := impl.DiskCrash(d, picks)
	if got.Stable != want || got.Now != want {
		t.Fatalf("DiskCrash(%s, %v): %s, want both %s", tellDisk(d), picks, tellDisk(got), short(want))
	}
}

// ruleCrash asks of each byte whether it is on the disk.
func ruleCrash(d impl.Disk, picks []int) string {
	safe := len(d.Stable)
	left := []byte(d.Now)
	last := safe
	for i := safe; i < len(d.Now); i++ {
		open := i/32 - safe/32
		inPart := i - max(safe, i/32*32)
		if open < len(picks) && inPart < picks[open] {
			last = i + 1
		} else {
			left[i] = 0
		}
	}
	return string(left[:last])
}

func TestDiskCrashOfDisksThatAreNotValid(t *testing.T) {
	full := strings.Repeat("0123456789abcdef", impl.MaxDisk/16)
	for _, d := range []impl.Disk{
		{Stable: "x"},
		{Stable: "x", Now: "y"},
		{Stable: "xy", Now: "x"},
		{Stable: "xy", Now: "xz and more"},
		{Stable: "y", Now: "xy"},
		{Stable: full + "x", Now: full},
		{Now: full + "x"},
		{Stable: full, Now: full + "x"},
		{Stable: full + "x", Now: full + "x"},
	} {
		for _, picks := range [][]int{nil, {5}, {0}, {-1, 40}} {
			if got := impl.DiskCrash(d, picks); got != (impl.Disk{}) {
				t.Errorf("DiskCrash(%s, %v): %s, want the zero Disk", tellDisk(d), picks, tellDisk(got))
			}
		}
	}
}

func TestDiskCrashAtMaxDisk(t *testing.T) {
	full := strings.Repeat("0123456789abcdef", impl.MaxDisk/16)
	checkCrash(t, impl.Disk{Stable: full, Now: full}, []int{1}, full)
	checkCrash(t, impl.Disk{Now: full}, nil, "")
	checkCrash(t, impl.Disk{Now: full}, times(impl.MaxDisk/32, 32), full)
	last := append(make([]int, impl.MaxDisk/32-1), 31)
	checkCrash(t, impl.Disk{Now: full}, last, zeros(impl.MaxDisk-32)+full[:31])
	checkCrash(t, impl.Disk{Now: full}, append(make([]int, impl.MaxDisk/32), 31), "")
}

func TestDiskCrashWithStableAtTheEdges(t *testing.T) {
	now := countedText(70, 'a')
	for _, c := range []struct {
		safe  int
		picks []int
		want  string
	}{
		{0, nil, ""},
		{0, []int{1}, now[:1]},
		{0, []int{0, 1}, zeros(32) + now[32:33]},
		{0, []int{0, 0, 1}, zeros(64) + now[64:65]},
		{0, []int{31, 0, 6}, now[:31] + zeros(33) + now[64:]},
		{0, []int{32, 32, 6}, now},
		{70, nil, now},
		{70, []int{5, 5}, now},
		{16, nil, now[:16]},
		{16, []int{0, 0, 0}, now[:16]},
		{16, []int{15}, now[:31]},
		{16, []int{16}, now[:32]},
		{16, []int{17}, now[:32]},
		{16, []int{3, 2}, now[:19] + zeros(13) + now[32:34]},
		{16, []int{0, 0, 2}, now[:16] + zeros(48) + now[64:66]},
		{31, []int{1}, now[:32]},
		{31, []int{0, 1}, now[:31] + zeros(1) + now[32:33]},
		{31, []int{-1, 1}, now[:31] + zeros(1) + now[32:33]},
		{32, []int{1}, now[:33]},
		{32, []int{0, 1}, now[:32] + zeros(32) + now[64:65]},
		{33, []int{1}, now[:34]},
		{64, []int{5}, now[:69]},
		{64, []int{6}, now},
		{64, []int{7}, now},
		{69, []int{1}, now},
		{69, []int{0, 1, 1}, now[:69]},
	} {
		checkCrash(t, impl.Disk{Stable: now[:c.safe], Now: now}, c.picks, c.want)
	}
	checkCrash(t, impl.Disk{}, nil, "")
	checkCrash(t, impl.Disk{}, []int{1, 2}, "")
}

func TestDiskCrashOfEveryPick(t *testing.T) {
	now := countedText(80, 1)
	values := []int{math.MinInt, -33, -1, 0, 1, 15, 16, 17, 31, 32, 33, 80, math.MaxInt}
	for safe := range len(now) + 1 {
		d := impl.Disk{Stable: now[:safe], Now: now}
		checkCrash(t, d, nil, now[:safe])
		for _, a := range values {
			checkCrash(t, d, []int{a}, ruleCrash(d, []int{a}))
			for _, b := range values {
				checkCrash(t, d, []int{a, b}, ruleCrash(d, []int{a, b}))
				for _, c := range values {
					checkCrash(t, d, []int{a, b, c, a}, ruleCrash(d, []int{a, b, c}))
				}
			}
		}
	}
}

func TestDiskCrashOfEveryEnd(t *testing.T) {
	whole := countedText(100, 3)
	for end := range len(whole) + 1 {
		for safe := range end + 1 {
			d := impl.Disk{Stable: whole[:safe], Now: whole[:end]}
			checkCrash(t, d, times(4, 32), d.Now)
			checkCrash(t, d, []int{5, 0, 7, -1}, ruleCrash(d, []int{5, 0, 7, -1}))
			checkCrash(t, d, []int{0, 40}, ruleCrash(d, []int{0, 40}))
			checkCrash(t, d, []int{0, 0, 0, 1, 1}, ruleCrash(d, []int{0, 0, 0, 1, 1}))
		}
	}
}

// A byte 0 that was written is on the disk as well as any other.
func TestDiskCrashKeepsZerosThatWereWritten(t *testing.T) {
	d := impl.Disk{Stable: "s", Now: "s" + zeros(63)}
	checkCrash(t, d, []int{0, 0}, "s")
	checkCrash(t, d, []int{3}, "s"+zeros(3))
	checkCrash(t, d, []int{0, 1}, "s"+zeros(32))
	checkCrash(t, d, []int{31, 32}, d.Now)
	safe := impl.Disk{Stable: "s" + zeros(40), Now: "s" + zeros(40)}
	checkCrash(t, safe, []int{1}, safe.Now)
}

func randomPicks(r *rand.Rand) []int {
	picks := make([]int, r.Intn(24))
	for i := range picks {
		switch r.Intn(4) {
		case 0:
			picks[i] = r.Intn(34) - 1
		case 1:
			picks[i] = 31
		default:
			picks[i] = 32
		}
	}
	return picks
}

// A crash leaves some first of the records, with all that were safe; and a crash of what it left changes nothing.
func TestDiskCrashLeavesTheFirstRecords(t *testing.T) {
	r := rand.New(rand.NewSource(42))
	some, all := 0, 0
	for range 40000 {
		texts := randomTexts(r)
		image, ends := logOf(texts...)
		safe := r.Intn(len(image) + 1)
		if r.Intn(2) == 0 {
			safe -= safe % 32
		}
		picks := randomPicks(r)
		d := impl.Disk{Stable: image[:safe], Now: image}
		crashed := impl.DiskCrash(d, picks)
		checkCrash(t, d, picks, ruleCrash(d, picks))
		got, size := impl.ReadLog(crashed.Now)
		least, _ := wholeBefore(ends, safe)
		if len(got) < least || len(got) > len(texts) || !slices.Equal(got, texts[:len(got)]) || len(got) > 0 && size != ends[len(got)-1] {
			t.Fatalf("DiskCrash(%s, %v): %s %d, %d of %d were safe", tellDisk(d), picks, tellTexts(got), size, least, len(texts))
		}
		if least < len(got) && len(got) < len(texts) {
			some++
		}
		if least < len(texts) && len(got) == len(texts) {
			all++
		}
		checkCrash(t, crashed, picks, crashed.Now)
	}
	if some < 100 || all < 100 {
		t.Fatalf("only %d and %d crashes left more than was safe", some, all)
	}
}

// textSpan is the memory of a text.
func textSpan(s string) span {
	from := uintptr(unsafe.Pointer(unsafe.StringData(s)))
	return span{from, from + uintptr(len(s))}
}

func TestLogIsNewMemory(t *testing.T) {
	s := strings.Repeat("s", 40)
	checkApart(t, []span{textSpan(s), textSpan(impl.Record(s))})
	image, _ := logOf(s, "", "next", "last")
	texts, _ := impl.ReadLog(image)
	again, _ := impl.ReadLog(image)
	spans := []span{textSpan(image), spanOf(texts), spanOf(again)}
	for i := range texts {
		spans = append(spans, textSpan(texts[i]), textSpan(again[i]))
	}
	checkApart(t, spans)
	for _, safe := range []int{0, 7, len(image)} {
		d := impl.Disk{Stable: strings.Clone(image[:safe]), Now: image}
		for _, picks := range [][]int{nil, {5, 0, 3}, times(8, 32)} {
			checkApart(t, []span{textSpan(d.Stable), textSpan(d.Now), textSpan(impl.DiskCrash(d, picks).Now)})
		}
	}
	texts[0] = "changed"
	if again[0] != s {
		t.Errorf("two answers share a list")
	}
}

func TestDiskCrashLeavesPicksAlone(t *testing.T) {
	picks := roomy([]int{-5, 40, math.MaxInt, 3}, 77)
	before := slices.Clone(picks[:6])
	now := countedText(150, 0)
	d := impl.Disk{Stable: now[:9], Now: now}
	impl.DiskCrash(d, picks)
	impl.DiskCrash(impl.Disk{Stable: "x"}, picks)
	if !slices.Equal(picks[:6], before) || d.Now != countedText(150, 0) || d.Stable != countedText(9, 0) {
		t.Errorf("picks %v, were %v", picks[:6], before)
	}
}
