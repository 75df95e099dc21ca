// Package may tells which numbers, pages, rows, groups, entries and states may be, for all layers that are handed some.
package may

import (
	"plinth/api"
	"plinth/block"
)

// Number: is it one from 0 to MaxNum?
func Number(n int) bool { return n >= 0 && n <= api.MaxNum }

// Serial: is it one from 1 to MaxNum, as entries, serials and clients have?
func Serial(n int) bool { return n >= 1 && n <= api.MaxNum }

// Pages: may they be laid on a volume of a shape?
func Pages(s api.Shape, l []api.Page) bool {
	ahead := -1
	for _, p := range l {
		if p.At <= ahead || p.At >= s.Blocks || !Serial(p.Version) || len(p.Data) != s.Size {
			return false
		}
		ahead = p.At
	}
	return true
}

// Rows: may they be a table's?
func Rows(l []api.Row) bool {
	if len(l) > api.MaxClients {
		return false
	}
	ahead := 0
	for _, r := range l {
		if r.Client <= ahead || !Serial(r.Client) || !Serial(r.Serial) || block.Result(r.Result) != api.OK {
			return false
		}
		ahead = r.Client
	}
	return true
}
