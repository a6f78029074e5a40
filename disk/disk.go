// Package disk is a row of sectors that keep what was flushed, and that can be told to fail.
package disk

import (
	"strings"

	"concord/api"
)

// Block is what one sector holds.
type Block [api.Sector]byte

// keepBits is how many bits of a script's keep are looked at.
const keepBits = 63

// Disk holds what lasts, and beside it what was written since the last flush.
type Disk struct {
	lasting []Block
	waiting []write
	acts    int
	script  script
	failed  bool
}

type write struct {
	sector int
	block  Block
}

// script tells when the disk fails and what is kept then.
type script struct {
	given bool
	left  int
	keep  int
}

// Holding makes a disk on which these bytes last, sector by sector. A rest that fills no sector is left out.
func Holding(bytes string) *Disk {
	d := &Disk{lasting: make([]Block, len(bytes)/api.Sector)}
	for i := range d.lasting {
		copy(d.lasting[i][:], bytes[i*api.Sector:])
	}
	return d
}

// Bytes tells what lasts, one sector behind the other.
func (d *Disk) Bytes() string {
	var all strings.Builder
	for _, block := range d.lasting {
		all.Write(block[:])
	}
	return all.String()
}

// Sectors tells how many sectors there are.
func (d *Disk) Sectors() int { return len(d.lasting) }

// Acts tells how many acts the disk has done since it was made.
func (d *Disk) Acts() int { return d.acts }

// Failed tells whether the disk has failed.
func (d *Disk) Failed() bool { return d.failed }

// Fail lets the disk do so many acts more and then fail; keep's bits choose the waiting writes that last then.
func (d *Disk) Fail(after int, keep int) {
	d.script = script{given: true, left: after, keep: keep}
}

// Read tells what a sector holds, whether that lasts yet or not.
func (d *Disk) Read(sector int) Block {
	block := d.lasting[sector]
	for _, w := range d.waiting {
		if w.sector == sector {
			block = w.block
		}
	}
	return block
}

// Write is an act: it writes one sector, which does not last before a flush.
func (d *Disk) Write(sector int, block Block) api.Errno {
	if !d.mayAct() {
		return api.ErrDown
	}
	d.waiting = append(d.waiting, write{sector: sector, block: block})
	return api.OK
}

// Flush is an act: it makes all that was written last.
func (d *Disk) Flush() api.Errno {
	if !d.mayAct() {
		return api.ErrDown
	}
	for _, w := range d.waiting {
		d.lasting[w.sector] = w.block
	}
	d.waiting = nil
	return api.OK
}

// mayAct counts an act, or lets the disk fail when the script has come to its end.
func (d *Disk) mayAct() bool {
	if d.failed {
		return false
	}
	if d.script.given && d.script.left == 0 {
		d.fail()
		return false
	}
	if d.script.given {
		d.script.left--
	}
	d.acts++
	return true
}

func (d *Disk) fail() {
	for i, w := range d.waiting {
		if i < keepBits && d.script.keep>>i&1 == 1 {
			d.lasting[w.sector] = w.block
		}
	}
	d.waiting = nil
	d.failed = true
}
