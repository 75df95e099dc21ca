// Package clone copies what has lists in it, so that no two share memory.
package clone

import (
	"slices"

	"plinth/api"
)

// Op copies a request.
func Op(o api.Op) api.Op {
	o.Data = slices.Clone(o.Data)
	o.Old = slices.Clone(o.Old)
	return o
}

// Result copies a result.
func Result(r api.Result) api.Result {
	r.Data = slices.Clone(r.Data)
	return r
}
