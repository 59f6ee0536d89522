package archive

import (
	"slices"
	"strings"

	"arras/api"
	"arras/catalog"
)

// CheckFiles: may they be added together?
func CheckFiles(l []api.File) api.Errno {
	if len(l) < 1 || len(l) > api.MaxFiles {
		return api.ErrSize
	}
	bytes := 0
	e := look(l, func(ahead []api.File, f api.File) api.Errno {
		bytes += len(f.Data)
		return checkFile(ahead, f)
	})
	if e != api.OK {
		return e
	}
	if bytes > api.MaxBlock {
		return api.ErrSize
	}
	return api.OK
}

// look at files one by one, each with the ones ahead, up to the first one that the closure refuses.
func look(l []api.File, see func(ahead []api.File, f api.File) api.Errno) api.Errno {
	for i, f := range l {
		if e := see(l[:i], f); e != api.OK {
			return e
		}
	}
	return api.OK
}

// checkFile by itself, and against the ones ahead.
func checkFile(ahead []api.File, f api.File) api.Errno {
	if !catalog.Name(f.Name) {
		return api.ErrForm
	}
	if len(f.Data) > api.MaxFile {
		return api.ErrSize
	}
	if slices.ContainsFunc(ahead, func(x api.File) bool { return x.Name == f.Name }) {
		return api.ErrTwice
	}
	return api.OK
}

// taken: has a catalog that may be the name of one of these files?
func taken(c api.Catalog, l []api.File) bool {
	return slices.ContainsFunc(l, func(f api.File) bool {
		_, e := catalog.Find(c, f.Name)
		return e == api.OK
	})
}

// together: the bytes of files, one behind the other, and an entry of each, in this block.
func together(l []api.File, block int) (string, []api.Entry) {
	var data strings.Builder
	var entries []api.Entry
	look(l, func(_ []api.File, f api.File) api.Errno {
		entries = append(entries, api.Entry{Name: f.Name, Block: block, At: data.Len(), Bytes: len(f.Data)})
		data.WriteString(f.Data)
		return api.OK
	})
	return data.String(), entries
}

// sortByName: the order that a catalog must have.
func sortByName(l []api.Entry) {
	slices.SortFunc(l, func(x, y api.Entry) int { return strings.Compare(x.Name, y.Name) })
}
