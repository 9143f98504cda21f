package tests

import (
	"encoding/binary"
	"fmt"
	"hash/crc32"
	"math"
	"math/rand"
	"slices"
	"strings"
	"testing"

	"loop.example/g00297/impl"
)

// frame goes by the words of the document.
func frame(data string) string {
	head := binary.BigEndian.AppendUint32(nil, uint32(len(data)))
	head = binary.LittleEndian.AppendUint32(head, crc32.ChecksumIEEE([]byte(data)))
	return string(head) + data
}

// wantFrames asks for these frames with which s begins, and where they end.
func wantFrames(t *testing.T, what string, s string, end int, want ...string) {
	t.Helper()
	got, told := impl.TakeFrames(s)
	if told != int64(end) || !slices.Equal(got, want) {
		t.Errorf("%s: %d frames up to %d, not %d up to %d", what, len(got), told, len(want), end)
	}
}

func TestFrames(t *testing.T) {
	for _, data := range []string{"", "a", "123456789", "\x00", "\x00\x00\x00\x00", "\xff\xff\xff\xff", "\n", "é", bytesLong(254), bytesLong(255), bytesLong(256), bytesLong(257), bytesLong(65535), bytesLong(65536), bytesLong(65537), bytesLong(99999), bytesLong(100000), strings.Repeat("\x00\xff", 50000)} {
		if got := impl.FrameOf(data); got != frame(data) {
			t.Errorf("of %d bytes: %.20q, not %.20q", len(data), got, frame(data))
		}
		wantFrames(t, fmt.Sprint("of ", len(data)), frame(data), len(data)+8, data)
	}
	if impl.FrameOf("") != "\x00\x00\x00\x00\x00\x00\x00\x00" {
		t.Error("of nothing")
	}
	// A frame one byte too long is none, though its sum is right.
	for _, long := range []int{100001, 100002, 200000, 1 << 20} {
		if got := impl.FrameOf(bytesLong(long)); got != "" {
			t.Errorf("of %d bytes: %.20q", long, got)
		}
		wantFrames(t, fmt.Sprint("of ", long), frame(bytesLong(long)), 0)
		wantFrames(t, fmt.Sprint("of ", long, " behind another one"), frame("a")+frame(bytesLong(long))+frame("b"), 9, "a")
	}
	r := rand.New(rand.NewSource(91))
	for range 500 {
		data := make([]byte, r.Intn(300))
		r.Read(data)
		if got := impl.FrameOf(string(data)); got != frame(string(data)) {
			t.Fatalf("%q: %q", data, got)
		}
	}
}

func TestTakeFrames(t *testing.T) {
	wantFrames(t, "nothing", "", 0)
	for n := range 8 {
		wantFrames(t, "less than a head", frame("")[:n], 0)
	}
	list := []string{"one", "", "three", bytesLong(1000), "\x00\x00\x00\x00\x00\x00\x00\x00", "last"}
	all, ends := "", []int{0}
	for _, data := range list {
		all += frame(data)
		ends = append(ends, len(all))
	}
	wantFrames(t, "one behind the other", all, len(all), list...)
	// Cut anywhere: the frames that are whole are there.
	for n := range len(all) {
		whole := 0
		for ends[whole+1] <= n {
			whole++
		}
		wantFrames(t, fmt.Sprint("cut at ", n), all[:n], ends[whole], list[:whole]...)
	}
	for _, behind := range []string{"?", "\x00", "\x00\x00\x00\x00\x00\x00\x00", "\xff\xff\xff\xff\x00\x00\x00\x00", frame("a")[1:], frame("abc")[:10], "\x00\x00\x00\x00\x00\x00\x00\x01", "\x00\x01\x86\xa1\x00\x00\x00\x00"} {
		wantFrames(t, fmt.Sprintf("%q behind them", behind), all+behind, len(all), list...)
		// What stands behind one that is none is none either, whatever it is.
		wantFrames(t, fmt.Sprintf("%q between", behind), frame("one")+"?"+behind+frame("one"), 11, "one")
	}
	// A frame in which any byte is another one is none.
	for i := range len(frame("three")) {
		for _, flip := range []byte{1, 2, 128, 255} {
			other := []byte(frame("three"))
			other[i] ^= flip
			wantFrames(t, fmt.Sprint("another byte at ", i), frame("a")+string(other)+frame("b"), 9, "a")
		}
	}
	// The length, and the sum, the other way round.
	wantFrames(t, "the lowest byte first", "\x03\x00\x00\x00"+frame("one")[4:], 0)
	turned := []byte(frame("one"))
	slices.Reverse(turned[4:8])
	wantFrames(t, "the highest byte of the sum first", string(turned), 0)
	wantFrames(t, "a shorter length", "\x00\x00\x00\x02"+frame("one")[4:], 0)
	wantFrames(t, "a longer length", "\x00\x00\x00\x04"+frame("one")[4:]+"x", 0)
	// As many as there are: a file of noughts is full of empty frames.
	if list, end := impl.TakeFrames(strings.Repeat("\x00", 20007)); len(list) != 2500 || end != 20000 {
		t.Error("noughts", len(list), end)
	}
}

func TestChangesComeBack(t *testing.T) {
	for _, text := range []string{"doc:a#viewer@user:x", "doc:a#viewer@group:g#member", "a:b#c@d:e", "add:add#drop@drop:add#add", "abcdefghijkl:abcdefghij_1#abcdefghijkl@abcdefghijkl:000000000000#abcdefghijkl"} {
		for word, kind := range map[string]int64{"add": impl.ChAdd, "drop": impl.ChDrop} {
			c := impl.Change{Kind: kind, Tuple: tupleOf(t, text)}
			if got := impl.ChangeText(c); got != word+" "+text {
				t.Errorf("%v: %q", c, got)
			}
			if got, ok := impl.ReadChange(word + " " + text); !ok || got != c {
				t.Errorf("%s %s: %v, %v", word, text, got, ok)
			}
		}
	}
	right := tupleOf(t, "doc:a#viewer@group:g#member")
	for _, kind := range []int64{0, 3, 4, -1, 257, 1<<32 + 1, math.MaxInt64, math.MinInt64} {
		if got := impl.ChangeText(impl.Change{Kind: kind, Tuple: right}); got != "" {
			t.Errorf("kind %d: %q", kind, got)
		}
	}
	for _, wrong := range wrongTuples(right) {
		for kind := range int64(4) {
			if got := impl.ChangeText(impl.Change{Kind: kind, Tuple: wrong}); got != "" {
				t.Errorf("%v: %q", wrong, got)
			}
		}
	}
}

func TestTextsThatAreNoChanges(t *testing.T) {
	const text = "doc:a#viewer@user:x"
	for _, s := range []string{
		"", " ", "add", "drop", "add ", "drop ", "add  ", text, " " + text, "  " + text, "add  " + text, "drop  " + text, " add " + text, "add " + text + " ", "add " + text + "\n", "\nadd " + text, "add\n" + text, "add\t" + text, "add" + text, "add," + text,
		"fly " + text, "Add " + text, "ADD " + text, "ad " + text, "adds " + text, "dro " + text, "dropp " + text, "remove " + text, "1 " + text, "2 " + text, "sync add " + text, "add add " + text, "add drop " + text, "add " + text + " " + text, "add doc:a", "add doc:a#viewer", "add doc:a#viewer@", "add " + text + "#", "add " + text + "#A", "add doc:A#viewer@user:x", "add\x00" + text, "add \x00" + text, "add this:a#viewer@user:x",
	} {
		if c, ok := impl.ReadChange(s); ok || c != (impl.Change{}) {
			t.Errorf("%q was read as %v, %v", s, c, ok)
		}
	}
	// What is read is what is written, whatever is changed in a text.
	for _, s := range []string{"add " + text, "drop " + text + "#all"} {
		for _, other := range spoiled(s) {
			c, ok := impl.ReadChange(other)
			if ok && impl.ChangeText(c) != other || !ok && c != (impl.Change{}) {
				t.Errorf("%q was read as %v, %v", other, c, ok)
			}
		}
	}
}
