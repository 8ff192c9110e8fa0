package block

import (
	"slices"

	"quipu/api"
)

// Disk has an image, and faults.
type Disk struct {
	image  string
	faults []api.Fault
	reads  int
}

// New is a disk of bytes.
func New(image string, faults []api.Fault) (*Disk, api.Errno) {
	if len(image) > api.MaxImage+headSize {
		return nil, api.ErrBlockLong
	}
	if !mayAll(faults) {
		return nil, api.ErrBlockFault
	}
	return &Disk{image: image, faults: slices.Clone(faults)}, api.OK
}

// Size tells how many bytes there are; Reads how many reads there were.
func (d *Disk) Size() int { return len(d.image) }

func (d *Disk) Reads() int { return d.reads }

// Read tells bytes.
func (d *Disk) Read(at, n int) (string, api.Errno) {
	if !d.has(at, n) {
		return "", api.ErrBlockPlace
	}
	f := faultOf(d.faults, d.reads)
	d.reads++
	return changes()[f.Kind](f, d.image[at:at+n])
}

// has takes n from the size, because a sum of both numbers could wrap round.
func (d *Disk) has(at, n int) bool {
	return 1 <= n && n <= api.BlockSize && 0 <= at && at <= d.Size()-n
}

// readOn reads block behind block until there are so many bytes, which the disk must have.
func (d *Disk) readOn(image []byte, end int) ([]byte, api.Errno) {
	for len(image) < end {
		n := min(api.BlockSize, d.Size()-len(image))
		told, err := d.Read(len(image), n)
		if err != api.OK {
			return nil, err
		}
		if len(told) < n {
			return nil, api.ErrBlockShort
		}
		image = append(image, told...)
	}
	return image, api.OK
}
