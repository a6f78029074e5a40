package disk_test

import (
	"strings"
	"testing"

	"concord/api"
	"concord/disk"
)

func blank(sectors int) *disk.Disk {
	return disk.Holding(strings.Repeat("\x00", sectors*api.Sector))
}

func filled(letter byte) disk.Block {
	var block disk.Block
	for i := range block {
		block[i] = letter
	}
	return block
}

func write(t *testing.T, d *disk.Disk, sector int, letter byte) {
	t.Helper()
	if e := d.Write(sector, filled(letter)); e != api.OK {
		t.Fatalf("Write(%d): %d", sector, e)
	}
}

// lasting tells the first byte of each sector that lasts.
func lasting(d *disk.Disk) string {
	var first []byte
	bytes := d.Bytes()
	for i := 0; i < len(bytes); i += api.Sector {
		first = append(first, bytes[i])
	}
	return strings.ReplaceAll(string(first), "\x00", ".")
}

func TestHoldingKeepsItsBytes(t *testing.T) {
	var text strings.Builder
	for i := range 3 * api.Sector {
		text.WriteByte(byte(i * 7))
	}
	d := disk.Holding(text.String())
	if d.Bytes() != text.String() || d.Sectors() != 3 || d.Acts() != 0 || d.Failed() {
		t.Errorf("%q, %d sectors, %d acts, failed %v", d.Bytes(), d.Sectors(), d.Acts(), d.Failed())
	}
}

func TestWhatIsWrittenLastsWhenFlushed(t *testing.T) {
	d := blank(4)
	write(t, d, 2, 'x')
	write(t, d, 0, 'y')
	if d.Read(2) != filled('x') || d.Read(0) != filled('y') || d.Read(1) != filled(0) {
		t.Error("P6: what was written can't be read")
	}
	if lasting(d) != "...." {
		t.Errorf("P5: lasts without a flush: %s", lasting(d))
	}
	if e := d.Flush(); e != api.OK || lasting(d) != "y.x." || d.Acts() != 3 {
		t.Errorf("P5, P6: %d, %s, %d acts", e, lasting(d), d.Acts())
	}
	write(t, d, 2, 'z')
	if lasting(d) != "y.x." || d.Read(2) != filled('z') {
		t.Errorf("P5: lasts without a second flush: %s", lasting(d))
	}
}

// The i-th write is kept by bit i, whatever sector it went to.
func TestFailKeepsTheWritesThatTheScriptNames(t *testing.T) {
	wants := []string{"....", "...a", ".b..", ".b.a", "c...", "c..a", "cb..", "cb.a"}
	for keep, want := range wants {
		d := blank(4)
		d.Fail(3, keep)
		write(t, d, 3, 'a')
		write(t, d, 1, 'b')
		write(t, d, 0, 'c')
		if e := d.Flush(); e != api.ErrDown || !d.Failed() || d.Acts() != 3 || lasting(d) != want {
			t.Errorf("P6: keep %b: %d, %s, %d acts, want %s", keep, e, lasting(d), d.Acts(), want)
		}
	}
}

func TestTheActThatFailsDoesNotHappen(t *testing.T) {
	d := blank(3)
	d.Fail(1, -1)
	write(t, d, 0, 'a')
	if e := d.Write(1, filled('b')); e != api.ErrDown || d.Acts() != 1 || lasting(d) != "a.." {
		t.Errorf("P6: %d, %d acts, %s", e, d.Acts(), lasting(d))
	}
}

func TestWhatWasFlushedLastsThroughAFailure(t *testing.T) {
	d := blank(3)
	write(t, d, 0, 'a')
	d.Flush()
	d.Fail(1, 0)
	write(t, d, 1, 'b')
	if e := d.Flush(); e != api.ErrDown || lasting(d) != "a.." {
		t.Errorf("P6: %d, %s", e, lasting(d))
	}
}

func TestAFailedDiskDoesNothing(t *testing.T) {
	d := blank(3)
	d.Fail(0, 1)
	d.Flush()
	for range 3 {
		if d.Write(0, filled('a')) != api.ErrDown || d.Flush() != api.ErrDown {
			t.Error("P6: a failed disk acts")
		}
	}
	if d.Acts() != 0 || lasting(d) != "..." {
		t.Errorf("P6: %d acts, %s", d.Acts(), lasting(d))
	}
}

func TestOnlyBitsUpTo62AreKept(t *testing.T) {
	for _, row := range []struct {
		keep int
		want string
	}{
		{-1, strings.Repeat("a", 63) + "..."},
		{1 << 62, strings.Repeat(".", 62) + "a..."},
		{-1 << 63, strings.Repeat(".", 66)},
		{-2, "." + strings.Repeat("a", 62) + "..."},
	} {
		d := blank(66)
		d.Fail(66, row.keep)
		for i := range 66 {
			write(t, d, i, 'a')
		}
		if e := d.Flush(); e != api.ErrDown || lasting(d) != row.want {
			t.Errorf("P6: keep %d: %d, %s", row.keep, e, lasting(d))
		}
	}
}

func TestALaterFailTakesThePlaceOfAnEarlierOne(t *testing.T) {
	d := blank(3)
	d.Fail(0, 0)
	d.Fail(2, 2)
	write(t, d, 0, 'a')
	write(t, d, 1, 'b')
	if e := d.Flush(); e != api.ErrDown || lasting(d) != ".b." {
		t.Errorf("P6: %d, %s", e, lasting(d))
	}
	d = blank(3)
	d.Fail(1<<63-1, 0)
	write(t, d, 0, 'a')
	if e := d.Flush(); e != api.OK || lasting(d) != "a.." {
		t.Errorf("P6: %d, %s", e, lasting(d))
	}
}
