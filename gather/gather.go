// Package gather reads a frame that lies on several sectors, of which nobody knows ahead how many.
package gather

import (
	"plinth/api"
	"plinth/frame"
	"plinth/sector"
)

// Frame tells the frame, and its bytes, with which the first ones of n sectors begin; at tells where the k-th one lies.
// No sector behind the frame's last one is read.
func Frame(d *sector.Disk, n int, at func(k int) int) (api.Frame, []byte, bool) {
	var b []byte
	for k := range n {
		more, e := d.Read(at(k), 1)
		if e != api.OK {
			break
		}
		b = append(b, more...)
		f, end, e := frame.Read(b, 0)
		if e == api.OK {
			return f, b[:end], true
		}
		if e != api.ErrShort {
			break
		}
	}
	return api.Frame{}, nil, false
}
