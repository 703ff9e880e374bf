package impl

import (
	"bytes"
	"slices"
)

const SectorSize = 512
const MaxSectors = 1024
const MaxPending = 8192
const OpWrite = 1
const OpSync = 2

type SectorWrite struct {
	Sector int64
	Data   []byte
}
type Disk struct {
	Durable []byte
	Pending []SectorWrite
}
type Op struct {
	Kind   int64
	Sector int64
	Data   []byte
}
type OpsResult struct {
	Done bool
	Used int64
	Disk Disk
}

// sectorBytes is an array, so that to assign a sector is to copy it.
type sectorBytes [SectorSize]byte

type pendingSector struct {
	sector int64
	data   sectorBytes
}

// platter is a valid disk taken apart into sectors. It shares no memory with
// the disk that it was made of, so its methods may change it in place.
type platter struct {
	durable []sectorBytes
	pending []pendingSector
}

func ValidDisk(d Disk) bool {
	sectors := countSectors(d)
	if sectors < 1 || sectors > MaxSectors || len(d.Durable)%SectorSize != 0 {
		return false
	}
	if len(d.Pending) > MaxPending {
		return false
	}
	for _, w := range d.Pending {
		if w.Sector < 0 || w.Sector >= sectors || len(w.Data) != SectorSize {
			return false
		}
	}
	return true
}

func NewDisk(sectors int64) Disk {
	if sectors < 1 || sectors > MaxSectors {
		return Disk{}
	}
	return Disk{Durable: make([]byte, sectors*SectorSize)}
}

// DiskRead does without a platter: one sector is not worth a copy of the disk.
func DiskRead(d Disk, sector int64) []byte {
	if !ValidDisk(d) || sector < 0 || sector >= countSectors(d) {
		return nil
	}
	for i := len(d.Pending) - 1; i >= 0; i-- {
		if d.Pending[i].Sector == sector {
			return bytes.Clone(d.Pending[i].Data)
		}
	}
	start := sector * SectorSize
	return bytes.Clone(d.Durable[start : start+SectorSize])
}

func DiskWrite(d Disk, sector int64, data []byte) Disk {
	if !ValidDisk(d) {
		return cloneDisk(d)
	}
	p := openDisk(d)
	p.write(sector, data)
	return p.disk()
}

func DiskSync(d Disk) Disk {
	if !ValidDisk(d) {
		return cloneDisk(d)
	}
	p := openDisk(d)
	p.sync()
	return p.disk()
}

func DiskCrash(d Disk, keep []int64) Disk {
	if !ValidDisk(d) {
		return cloneDisk(d)
	}
	p := openDisk(d)
	p.crash(keep)
	return p.disk()
}

func RunOps(d Disk, ops []Op, limit int64) OpsResult {
	all := int64(len(ops))
	used := all
	if limit >= 0 && limit < all {
		used = limit
	}
	result := OpsResult{Done: used == all, Used: used}
	if !ValidDisk(d) {
		result.Disk = cloneDisk(d)
		return result
	}
	p := openDisk(d)
	for _, op := range ops[:used] {
		p.do(op)
	}
	result.Disk = p.disk()
	return result
}

func countSectors(d Disk) int64 {
	return int64(len(d.Durable)) / SectorSize
}

// seenSectors are the sectors of a valid disk as a reader sees them. They are the
// disk's own memory, for one who reads many of them and keeps none.
func seenSectors(d Disk) [][]byte {
	seen := make([][]byte, countSectors(d))
	for i := range seen {
		seen[i] = d.Durable[i*SectorSize : (i+1)*SectorSize]
	}
	for _, w := range d.Pending {
		seen[w.Sector] = w.Data
	}
	return seen
}

// cloneDisk copies any disk, of whatever lengths; a platter holds only valid ones.
func cloneDisk(d Disk) Disk {
	c := Disk{Durable: bytes.Clone(d.Durable)}
	for _, w := range d.Pending {
		c.Pending = append(c.Pending, SectorWrite{Sector: w.Sector, Data: bytes.Clone(w.Data)})
	}
	return c
}

// openDisk takes a valid disk; of another one there are no whole sectors.
// There is room for one write more, so that it need not move all the others.
func openDisk(d Disk) *platter {
	p := &platter{
		durable: make([]sectorBytes, countSectors(d)),
		pending: make([]pendingSector, 0, len(d.Pending)+1),
	}
	for i := range p.durable {
		p.durable[i] = sectorBytes(d.Durable[i*SectorSize : (i+1)*SectorSize])
	}
	for _, w := range d.Pending {
		p.pending = append(p.pending, pendingSector{sector: w.Sector, data: sectorBytes(w.Data)})
	}
	return p
}

func (p *platter) disk() Disk {
	d := Disk{
		Durable: slices.Grow([]byte(nil), len(p.durable)*SectorSize),
		Pending: slices.Grow([]SectorWrite(nil), len(p.pending)),
	}
	for i := range p.durable {
		d.Durable = append(d.Durable, p.durable[i][:]...)
	}
	for i := range p.pending {
		w := &p.pending[i]
		d.Pending = append(d.Pending, SectorWrite{Sector: w.sector, Data: bytes.Clone(w.data[:])})
	}
	return d
}

// write asks for sector and data ahead of all else: a write that is refused
// must not make the pending ones durable.
func (p *platter) write(sector int64, data []byte) {
	if sector < 0 || sector >= int64(len(p.durable)) || len(data) != SectorSize {
		return
	}
	if len(p.pending) >= MaxPending {
		p.sync()
	}
	p.pending = append(p.pending, pendingSector{sector: sector, data: sectorBytes(data)})
}

func (p *platter) sync() {
	for _, w := range p.pending {
		p.durable[w.sector] = w.data
	}
	p.pending = nil
}

func (p *platter) crash(keep []int64) {
	for i, w := range p.pending {
		if i < len(keep) && keep[i] != 0 {
			p.durable[w.sector] = w.data
		}
	}
	p.pending = nil
}

func (p *platter) do(op Op) {
	switch op.Kind {
	case OpWrite:
		p.write(op.Sector, op.Data)
	case OpSync:
		p.sync()
	}
}
